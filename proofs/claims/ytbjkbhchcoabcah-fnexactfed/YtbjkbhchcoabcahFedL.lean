/-
  Fed by one piece behind the other, and Fed at once: the same.
-/
import Derived.Test.YtbjkbhchcoabcahFed
namespace Go.Proofs.Ytbjkbhchcoabcah
open Go.RowKit
set_option linter.unusedVariables false
set_option maxRecDepth 100000

/-- Fed by each of the pieces, one behind the other. -/
def fedL (f : ByteArray × Int) : List ByteArray → (ByteArray × Int) × List ByteArray
  | [] => (f, [])
  | x :: xs => ((fedL (fed f.1 f.2 x).1 xs).1, (fed f.1 f.2 x).2 ++ (fedL (fed f.1 f.2 x).1 xs).2)
theorem fedL_snoc (f : ByteArray × Int) (l : List ByteArray) (x : ByteArray) : fedL f (l ++ [x]) = ((fed (fedL f l).1.1 (fedL f l).1.2 x).1, (fedL f l).2 ++ (fed (fedL f l).1.1 (fedL f l).1.2 x).2) := by
  induction l generalizing f with
  | nil => simp [fedL]
  | cons a l ih => simp only [List.cons_append, fedL, ih, List.append_assoc]

/-- What a Feed that is right comes to is right. -/
theorem fed_ok (r b : ByteArray) (k : Int) (h : feedOk r k = true) (hb : b.size ≤ 1000) : feedOk (fed r k b).1.1 (fed r k b).1.2 = true ∧ (fed r k b).2.length ≤ 1063 := by
  obtain ⟨h1, h2, h3, h4⟩ := feedOk_bd r k h
  have hs : (r ++ b).size = r.size + b.size := ByteArray.size_append
  obtain ⟨xs, p, k', he⟩ : ∃ xs p k', Fr.fedF (r ++ b) ((r ++ b).size + 1) 0 k = (xs, p, k') := ⟨_, _, _, rfl⟩
  have hf := Fr.fedF_fin (r ++ b) ((r ++ b).size + 1) 0 k (Nat.zero_le _) (by omega) h2 h3
  rw [fed_yes r k b h hb xs p k' he]
  rw [he] at hf
  obtain ⟨f1, f2, f3, f4, f5, f6⟩ := hf
  simp only at f1 f2 f3 f4 f5 f6 ⊢
  have hz := Fr.rest_size (r ++ b) p
  have hrr := Fr.frEnd_rest (r ++ b) p 0 (by omega)
  rw [Nat.add_zero, f3] at hrr
  have hrr2 : Fr.frEnd (Fr.rest (r ++ b) p) 0 = -2 := hrr
  refine ⟨?_, by omega⟩
  have hsm := Fr.more_small _ hrr2
  simp only [feedOk, Bool.and_eq_true, decide_eq_true_eq, beq_iff_eq]
  exact ⟨⟨by omega, f4, f5⟩, hrr2⟩

theorem fed_len (r b : ByteArray) (k : Int) : (fed r k b).2.length ≤ 1063 := by
  by_cases h : feedOk r k = true ∧ b.size ≤ 1000
  · exact (fed_ok r b k h.1 h.2).2
  · unfold fed
    rw [if_neg h]
    simp

theorem fed_bd (r b : ByteArray) (k : Int) : (fed r k b).1.1.size ≤ 63 ∧ 0 ≤ (fed r k b).1.2 ∧ (fed r k b).1.2 ≤ 1000000 := by
  by_cases h : feedOk r k = true ∧ b.size ≤ 1000
  · have := feedOk_bd _ _ (fed_ok r b k h.1 h.2).1
    omega
  · unfold fed
    rw [if_neg h]
    exact ⟨by decide, by decide, by decide⟩

/-- Fed by one piece and then another, or by both at once. -/
theorem fed_fed (r a b : ByteArray) (k : Int) (h : feedOk r k = true) (hab : a.size + b.size ≤ 1000) :
    fed r k (a ++ b) = ((fed (fed r k a).1.1 (fed r k a).1.2 b).1, (fed r k a).2 ++ (fed (fed r k a).1.1 (fed r k a).1.2 b).2) := by
  obtain ⟨h1, h2, h3, h4⟩ := feedOk_bd r k h
  have hok := (fed_ok r a k h (by omega)).1
  have hsa : (r ++ a).size = r.size + a.size := ByteArray.size_append
  have hsab : (r ++ a ++ b).size = r.size + a.size + b.size := by rw [ByteArray.size_append, hsa]
  have hab2 : (a ++ b).size ≤ 1000 := by rw [ByteArray.size_append]; exact hab
  have hass : r ++ (a ++ b) = r ++ a ++ b := Fr.ba_ext (by simp)
  obtain ⟨xs, p, k', he⟩ : ∃ xs p k', Fr.fedF (r ++ a) ((r ++ a).size + 1) 0 k = (xs, p, k') := ⟨_, _, _, rfl⟩
  have hf := Fr.fedF_fin (r ++ a) ((r ++ a).size + 1) 0 k (Nat.zero_le _) (by omega) h2 h3
  rw [fed_yes r k a h (by omega) xs p k' he] at hok ⊢
  rw [he] at hf
  obtain ⟨f1, f2, f3, f4, f5, f6⟩ := hf
  simp only at f1 f2 f3 f4 f5 f6 hok ⊢
  have hrest : Fr.rest (r ++ a) p ++ b = Fr.rest (r ++ a ++ b) p := by
    apply Fr.ba_ext
    rw [Fr.app_list, Fr.rest_list, Fr.rest_list, Fr.app_list (r ++ a), List.drop_append_of_le_length (by rw [Fr.list_size]; exact f2)]
  -- all of it, from the beginning and from p on
  have hm := Fr.fedF_more (r ++ a) b ((r ++ a).size + 1) ((r ++ a ++ b).size + 1) ((r ++ a ++ b).size + 1) 0 k (Nat.zero_le _) (by omega) (by omega) (by omega)
  rw [he] at hm
  simp only at hm
  obtain ⟨ys, q, k'', he2⟩ : ∃ ys q k'', Fr.fedF (r ++ a ++ b) ((r ++ a ++ b).size + 1) p k' = (ys, q, k'') := ⟨_, _, _, rfl⟩
  rw [he2] at hm
  have hq := Fr.fedF_fin (r ++ a ++ b) ((r ++ a ++ b).size + 1) p k' (by omega) (by omega) f4 f5
  rw [he2] at hq
  simp only at hq hm
  have hsh := Fr.fedF_rest (r ++ a ++ b) p ((r ++ a ++ b).size + 1) 0 k' (by omega) (by omega)
  simp only [Nat.add_zero, he2] at hsh
  have hzr := Fr.rest_size (r ++ a ++ b) p
  rw [Fr.fedF_fuel (Fr.rest (r ++ a ++ b) p) _ ((Fr.rest (r ++ a ++ b) p).size + 1) 0 k' (Nat.zero_le _) (by omega) (by omega)] at hsh
  rw [← hass] at hm
  rw [← hrest] at hsh
  rw [fed_yes r k (a ++ b) h hab2 _ q k'' hm, fed_yes (Fr.rest (r ++ a) p) k' b hok (by omega) ys (q - p) k'' hsh]
  simp only
  rw [hass, hrest]
  have hrr : Fr.rest (Fr.rest (r ++ a ++ b) p) (q - p) = Fr.rest (r ++ a ++ b) q := by
    apply Fr.ba_ext
    rw [Fr.rest_list, Fr.rest_list, Fr.rest_list, List.drop_drop, show p + (q - p) = q by omega]
  rw [hrr]

/-- All pieces one behind the other. -/
def joined : List ByteArray → ByteArray
  | [] => ByteArray.empty
  | x :: xs => x ++ joined xs
theorem joined_size (x : ByteArray) (xs : List ByteArray) : (joined (x :: xs)).size = x.size + (joined xs).size := ByteArray.size_append
theorem fed_none (r : ByteArray) (k : Int) (h : feedOk r k = true) : fed r k ByteArray.empty = ((r, k), []) := by
  obtain ⟨h1, h2, h3, h4⟩ := feedOk_bd r k h
  have hr : r ++ ByteArray.empty = r := Fr.ba_ext (by simp)
  have he : Fr.fedF (r ++ ByteArray.empty) ((r ++ ByteArray.empty).size + 1) 0 k = ([], 0, k) := by rw [hr]; exact Fr.fedF_end r r.size 0 k h4
  rw [fed_yes r k ByteArray.empty h (by decide) [] 0 k he, hr]
  have : Fr.rest r 0 = r := Fr.ba_ext (by rw [Fr.rest_list, List.drop_zero])
  rw [this]
theorem fedL_joined (ps : List ByteArray) : ∀ (r : ByteArray) (k : Int), feedOk r k = true → (joined ps).size ≤ 1000 → fedL (r, k) ps = fed r k (joined ps) := by
  induction ps with
  | nil => intro r k h _; simp only [fedL, joined]; rw [fed_none r k h]
  | cons x xs ih =>
    intro r k h hs
    rw [joined_size] at hs
    have hok := (fed_ok r x k h (by omega)).1
    have hi := ih _ _ hok (by omega)
    simp only [fedL, joined]
    rw [fed_fed r x (joined xs) k h hs]
    have e : fedL (fed r k x).1 xs = fed (fed r k x).1.1 (fed r k x).1.2 (joined xs) := hi
    rw [e]
theorem fedL_ok (ps : List ByteArray) : ∀ (r : ByteArray) (k : Int), feedOk r k = true → (∀ p ∈ ps, p.size ≤ 1000) → feedOk (fedL (r, k) ps).1.1 (fedL (r, k) ps).1.2 = true ∧ (fedL (r, k) ps).2.length ≤ 1063 * ps.length := by
  induction ps with
  | nil => intro r k h _; exact ⟨h, by simp [fedL]⟩
  | cons x xs ih =>
    intro r k h hs
    have hok := fed_ok r x k h (hs x (by simp))
    have hi := ih _ _ hok.1 (fun p hp => hs p (by simp [hp]))
    have e : fedL (fed r k x).1 xs = fedL ((fed r k x).1.1, (fed r k x).1.2) xs := rfl
    simp only [fedL, List.length_append, List.length_cons]
    rw [e]
    exact ⟨hi.1, by omega⟩

/-- What FedAll comes to. -/
def fedAll (r : ByteArray) (k : Int) (ps : List ByteArray) : (ByteArray × Int) × List ByteArray :=
  if feedOk r k = true ∧ ps.length ≤ 50 ∧ ∀ p ∈ ps, p.size ≤ 1000 then fedL (r, k) ps else ((ByteArray.empty, 0), [])
theorem fedAll_yes (r : ByteArray) (k : Int) (ps : List ByteArray) (h1 : feedOk r k = true) (h2 : ps.length ≤ 50) (h3 : ∀ p ∈ ps, p.size ≤ 1000) : fedAll r k ps = fedL (r, k) ps := by unfold fedAll; rw [if_pos ⟨h1, h2, h3⟩]
theorem fedAll_no (r : ByteArray) (k : Int) (ps : List ByteArray) (h : ¬ (feedOk r k = true ∧ ps.length ≤ 50 ∧ ∀ p ∈ ps, p.size ≤ 1000)) : fedAll r k ps = ((ByteArray.empty, 0), []) := by unfold fedAll; rw [if_neg h]

theorem fedAll_len (r : ByteArray) (k : Int) (ps : List ByteArray) : (fedAll r k ps).2.length ≤ 53150 := by
  by_cases h : feedOk r k = true ∧ ps.length ≤ 50 ∧ ∀ p ∈ ps, p.size ≤ 1000
  · rw [fedAll_yes r k ps h.1 h.2.1 h.2.2]
    have := (fedL_ok ps r k h.1 h.2.2).2
    omega
  · rw [fedAll_no r k ps h]
    simp

end Go.Proofs.Ytbjkbhchcoabcah
