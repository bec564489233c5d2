/-
  Chapter 5: the program's runs of one place each, joined: the map of pages.
-/
import Derived.Test.YtombgdjklajanaiImMap3
import Derived.Test.YtombgdjklajanaiRows5
namespace Go.Proofs.Ytombgdjklajanai
open Go.RowKit
set_option linter.unusedVariables false

def joinStep (acc : List (Int × Int × Int)) (x : Int × Int × Int) : List (Int × Int × Int) :=
  match acc.getLast? with
  | none => acc ++ [x]
  | some r => if r.1 + r.2.1 = x.1 ∧ r.2.2 + r.2.1 = x.2.2 then acc.dropLast ++ [(r.1, r.2.1 + x.2.1, r.2.2)] else acc ++ [x]
def joinRuns (rs : List (Int × Int × Int)) : List (Int × Int × Int) := rs.foldl joinStep []
def Single (r : Int × Int × Int) : Prop := r.2.1 = 1 ∧ 0 ≤ r.1 ∧ r.1 ≤ 15 ∧ 0 ≤ r.2.2 ∧ r.2.2 ≤ 23
def Within (r : Int × Int × Int) : Prop := 0 ≤ r.1 ∧ 1 ≤ r.2.1 ∧ r.1 + r.2.1 ≤ 16 ∧ 0 ≤ r.2.2 ∧ r.2.2 + r.2.1 ≤ 24
theorem join_nil (x : Int × Int × Int) : joinStep [] x = [] ++ [x] := rfl
theorem join_on (pre : List (Int × Int × Int)) (f c p f' c' p' : Int) (h : f + c = f' ∧ p + c = p') : joinStep (pre ++ [(f, c, p)]) (f', c', p') = pre ++ [(f, c + c', p)] := by
  unfold joinStep
  rw [List.getLast?_concat]
  simp only
  rw [if_pos h, List.dropLast_concat]
theorem join_new (pre : List (Int × Int × Int)) (f c p f' c' p' : Int) (h : ¬ (f + c = f' ∧ p + c = p')) : joinStep (pre ++ [(f, c, p)]) (f', c', p') = (pre ++ [(f, c, p)]) ++ [(f', c', p')] := by
  unfold joinStep
  rw [List.getLast?_concat]
  simp only
  rw [if_neg h]
theorem join_within (acc : List (Int × Int × Int)) (x : Int × Int × Int) (hx : Single x) (h : ∀ r ∈ acc, Within r) : ∀ r ∈ joinStep acc x, Within r := by
  obtain ⟨f', c', p'⟩ := x
  have hw : Within (f', c', p') := by obtain ⟨h1, h2, h3, h4, h5⟩ := hx; simp only at h1 h2 h3 h4 h5; unfold Within; simp only; omega
  by_cases hA : acc = []
  · subst hA
    rw [join_nil]
    intro r hr
    simp at hr
    subst hr
    exact hw
  · obtain ⟨pre, ⟨f, c, p⟩, rfl⟩ := snoc_of acc hA
    by_cases hon : f + c = f' ∧ p + c = p'
    · rw [join_on _ _ _ _ _ _ _ hon]
      intro r hr
      rcases List.mem_append.1 hr with hr | hr
      · exact h r (List.mem_append_left _ hr)
      · simp at hr
        subst hr
        have h0 := h (f, c, p) (by simp)
        obtain ⟨h1, h2, h3, h4, h5⟩ := hx
        obtain ⟨q1, q2, q3, q4, q5⟩ := h0
        simp only at h1 h2 h3 h4 h5 q1 q2 q3 q4 q5
        unfold Within
        simp only
        omega
    · rw [join_new _ _ _ _ _ _ _ hon]
      intro r hr
      rcases List.mem_append.1 hr with hr | hr
      · exact h r hr
      · simp at hr
        subst hr
        exact hw
theorem join_len (acc : List (Int × Int × Int)) (x : Int × Int × Int) : (joinStep acc x).length ≤ acc.length + 1 := by
  unfold joinStep
  cases acc.getLast? with
  | none => simp
  | some r => simp only; split <;> simp <;> omega
theorem joinRuns_within (rs : List (Int × Int × Int)) (h : ∀ r ∈ rs, Single r) (q : Nat) : ∀ r ∈ joinRuns (rs.take q), Within r := by
  induction q with
  | zero => intro r hr; simp [joinRuns] at hr
  | succ q ih =>
    by_cases hq : q < rs.length
    · rw [joinRuns, List.take_succ_eq_append_getElem hq, List.foldl_append]
      exact join_within _ _ (h _ (List.getElem_mem hq)) ih
    · rw [List.take_of_length_le (by omega)]
      rw [List.take_of_length_le (by omega)] at ih
      exact ih
theorem joinRuns_len (rs : List (Int × Int × Int)) (q : Nat) : (joinRuns (rs.take q)).length ≤ q := by
  induction q with
  | zero => simp [joinRuns]
  | succ q ih =>
    by_cases hq : q < rs.length
    · rw [joinRuns, List.take_succ_eq_append_getElem hq, List.foldl_append]
      have := join_len (joinRuns (rs.take q)) rs[q]
      simp only [List.foldl_cons, List.foldl_nil]
      unfold joinRuns at this ih
      omega
    · rw [List.take_of_length_le (by omega)] at ih ⊢
      omega
theorem joinRuns_step (rs : List (Int × Int × Int)) (q : Nat) (hq : q < rs.length) : joinRuns (rs.take (q + 1)) = joinStep (joinRuns (rs.take q)) rs[q] := by
  rw [joinRuns, List.take_succ_eq_append_getElem hq, List.foldl_append]; rfl

/-- One run behind a row of runs of one's own. -/
theorem run_behind {w3 : World} {acc : List (Int × Int × Int)} {x : Int × Int × Int} {v' : Value} {base n : Nat} (hn : n = acc.length) (h : w3.ownsRow base 61 3 v' (n + 1) (acc.flatMap runC ++ runC x)) (hnil : v' ≠ .slice none 0 0) :
    ∃ g' cp', v' = .slice (some ⟨g', 0, none⟩) (acc ++ [x]).length cp' ∧ w3.ownsRow base 61 3 (.slice (some ⟨g', 0, none⟩) (acc ++ [x]).length cp') (acc ++ [x]).length ((acc ++ [x]).flatMap runC) := by
  subst hn
  have own3 : w3.ownsRow base 61 3 v' (acc ++ [x]).length ((acc ++ [x]).flatMap runC) := by simpa using h
  rcases own3.2 with ⟨e, _⟩ | ⟨g', cp', cur, e, h2⟩
  · exact absurd e hnil
  · subst e
    exact ⟨g', cp', rfl, own3⟩

/-- The last run of a row is written anew. -/
theorem put_run {w : World} {base g cp : Nat} {pre : List (Int × Int × Int)} {f c p c2 : Int} (h : w.ownsRow base 61 3 (.slice (some ⟨g, 0, none⟩) (pre ++ [(f, c, p)]).length cp) (pre ++ [(f, c, p)]).length ((pre ++ [(f, c, p)]).flatMap runC)) :
    (((w.setCell ⟨g, pre.length * 3, none⟩ (.int .i64 f)).setCell ⟨g, pre.length * 3 + 1, none⟩ (.int .i64 c2)).setCell ⟨g, pre.length * 3 + 2, none⟩ (.int .i64 p)).ownsRow base 61 3 (.slice (some ⟨g, 0, none⟩) (pre ++ [(f, c2, p)]).length cp) (pre ++ [(f, c2, p)]).length ((pre ++ [(f, c2, p)]).flatMap runC) := by
  have e : ∀ x y : Int × Int × Int, (pre ++ [x]).set pre.length y = pre ++ [y] := fun x y => by simp
  have el : ∀ x y : Int × Int × Int, (pre ++ [x]).length = (pre ++ [y]).length := fun x y => by simp
  have h1 := own_put runC_len h pre.length 0 (f, c, p) (f, c, p) (.int .i64 f) (by simp) (by omega) rfl
  rw [e, Nat.add_zero] at h1
  have h2 := own_put runC_len h1 pre.length 1 (f, c, p) (f, c2, p) (.int .i64 c2) (by simp) (by omega) rfl
  rw [e] at h2
  have h3 := own_put runC_len h2 pre.length 2 (f, c2, p) (f, c2, p) (.int .i64 p) (by simp) (by omega) rfl
  rw [e] at h3
  rwa [el (f, c2, p) (f, c, p)] at h3 ⊢

end Go.Proofs.Ytombgdjklajanai
