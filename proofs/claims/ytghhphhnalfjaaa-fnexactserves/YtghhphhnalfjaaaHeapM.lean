/-
  Chapter 14: the program's line as a heap by places, plain: what is laid and taken in which order.
-/
import Derived.Test.YtghhphhnalfjaaaVwM
import Derived.KernelRfl
namespace Go.Proofs.Ytghhphhnalfjaaa
open Nums
set_option linter.unusedVariables false
set_option maxRecDepth 100000

/-- A heap by places: what stands at two places, told apart, changed for one another. -/
abbrev Mb := Int × Int
def mbAt (l : List Mb) (i : Nat) : Mb := l.getD i (0, 0)
def lessP (l : List Mb) (i j : Nat) : Bool := decide ((mbAt l i).1 < (mbAt l j).1)
def swapP (l : List Mb) (i j : Nat) : List Mb := (l.set i (mbAt l j)).set j (mbAt l i)
def upP : Nat → List Mb → Nat → List Mb
  | 0, l, _ => l
  | f + 1, l, j => if (j - 1) / 2 = j then l else if lessP l j ((j - 1) / 2) = false then l else upP f (swapP l ((j - 1) / 2) j) ((j - 1) / 2)
def childP (l : List Mb) (i n : Nat) : Nat := if 2 * i + 2 < n ∧ lessP l (2 * i + 2) (2 * i + 1) = true then 2 * i + 2 else 2 * i + 1
def downP : Nat → List Mb → Nat → Nat → List Mb × Nat
  | 0, l, i, _ => (l, i)
  | f + 1, l, i, n => if n ≤ 2 * i + 1 then (l, i) else if lessP l (childP l i n) i = false then (l, i) else downP f (swapP l i (childP l i n)) (childP l i n) n
def pushP (l : List Mb) (x : Mb) : List Mb := upP (l.length + 1) (l ++ [x]) l.length
def downAll (l : List Mb) (i n : Nat) : List Mb × Nat := downP (n + 1) l i n
def popP (l : List Mb) : List Mb × Mb := ((downAll (swapP l 0 (l.length - 1)) 0 (l.length - 1)).1.take (l.length - 1), mbAt (downAll (swapP l 0 (l.length - 1)) 0 (l.length - 1)).1 (l.length - 1))
def fixP (l : List Mb) (i n : Nat) : List Mb := if i < (downAll l i n).2 then (downAll l i n).1 else upP (i + 1) (downAll l i n).1 i
def takenP (l : List Mb) (i : Nat) : List Mb := if l.length - 1 = i then l else fixP (swapP l i (l.length - 1)) i (l.length - 1)
def removeP (l : List Mb) (i : Nat) : List Mb := (takenP l i).take (l.length - 1)
def lineFrom (side : Int) : List Mb → Nat → List Int → List Mb
  | l, _, [] => l
  | l, k, m :: ms => lineFrom side (pushP l ((k : Int) * side, m)) (k + 1) ms
def lineP (side : Int) (n : Int) (ms : List Int) : List Mb := if viewOk n ms = true then lineFrom side [] 0 ms else []
def firstP (l : List Mb) : Int := if l.length = 0 then -1 else (mbAt l 0).2
def afterP : Nat → List Mb → Int → Int
  | 0, _, _ => -1
  | f + 1, l, h => if l.length = 0 then -1 else if (popP l).2.2 = h then firstP (popP l).1 else afterP f (popP l).1 h
def drainP : Nat → List Mb → List Int
  | 0, _ => []
  | f + 1, l => if l.length = 0 then [] else (popP l).2.2 :: drainP f (popP l).1
def idxP (h : Int) : List Mb → Nat → Int
  | [], _ => -1
  | x :: l, k => if x.2 = h then (k : Int) else idxP h l (k + 1)

theorem swapP_len (l : List Mb) (i j : Nat) : (swapP l i j).length = l.length := by simp [swapP]
theorem upP_len : ∀ (f : Nat) (l : List Mb) (j : Nat), (upP f l j).length = l.length
  | 0, l, j => rfl
  | f + 1, l, j => by
    rw [upP]
    split
    · rfl
    · split
      · rfl
      · rw [upP_len f, swapP_len]
theorem downP_len : ∀ (f : Nat) (l : List Mb) (i n : Nat), (downP f l i n).1.length = l.length
  | 0, l, i, n => rfl
  | f + 1, l, i, n => by
    rw [downP]
    split
    · rfl
    · split
      · rfl
      · rw [downP_len f, swapP_len]
theorem childP_bd (l : List Mb) (i n : Nat) (h : ¬ n ≤ 2 * i + 1) : i < childP l i n ∧ childP l i n < n ∧ (childP l i n = 2 * i + 1 ∨ childP l i n = 2 * i + 2) := by
  unfold childP
  split <;> omega
theorem downP_bd : ∀ (f : Nat) (l : List Mb) (i n : Nat), i ≤ (downP f l i n).2
  | 0, l, i, n => Nat.le_refl _
  | f + 1, l, i, n => by
    rw [downP]
    split
    · exact Nat.le_refl _
    · rename_i hn
      split
      · exact Nat.le_refl _
      · have := downP_bd f (swapP l i (childP l i n)) (childP l i n) n
        have := (childP_bd l i n hn).1
        omega
/-- The walk's own steps: fuel enough is as good as any. -/
theorem upP_fuel : ∀ (f g : Nat) (l : List Mb) (j : Nat), j < f → j < g → upP f l j = upP g l j
  | 0, _, _, _, h, _ => by omega
  | _, 0, _, _, _, h => by omega
  | f + 1, g + 1, l, j, h1, h2 => by
    rw [upP, upP]
    split
    · rfl
    · split
      · rfl
      · exact upP_fuel f g _ _ (by omega) (by omega)
theorem downP_fuel : ∀ (f g : Nat) (l : List Mb) (i n : Nat), n < i + f → n < i + g → downP f l i n = downP g l i n
  | 0, 0, _, _, _, _, _ => rfl
  | 0, g + 1, l, i, n, h1, h2 => by rw [downP, downP, if_pos (by omega)]
  | f + 1, 0, l, i, n, h1, h2 => by rw [downP, downP, if_pos (by omega)]
  | f + 1, g + 1, l, i, n, h1, h2 => by
    rw [downP, downP]
    split
    · rfl
    · rename_i hn
      split
      · rfl
      · have := (childP_bd l i n hn).1
        exact downP_fuel f g _ _ _ (by omega) (by omega)
theorem upP_stop (l : List Mb) (j : Nat) (h : (j - 1) / 2 = j ∨ lessP l j ((j - 1) / 2) = false) (f : Nat) : upP f l j = l := by
  cases f with
  | zero => rfl
  | succ f =>
    rw [upP]
    rcases h with h | h
    · rw [if_pos h]
    · rw [h]
      split
      · rfl
      · rfl
theorem upP_go (l : List Mb) (j : Nat) (h1 : (j - 1) / 2 ≠ j) (h2 : lessP l j ((j - 1) / 2) = true) : upP (j + 1) l j = upP ((j - 1) / 2 + 1) (swapP l ((j - 1) / 2) j) ((j - 1) / 2) := by
  rw [upP, if_neg h1, if_neg (by rw [h2]; decide)]
  exact upP_fuel _ _ _ _ (by omega) (by omega)
theorem downAll_stop (l : List Mb) (i n : Nat) (h : n ≤ 2 * i + 1 ∨ lessP l (childP l i n) i = false) : downAll l i n = (l, i) := by
  rw [downAll, downP]
  rcases h with h | h
  · rw [if_pos h]
  · rw [h]
    split
    · rfl
    · rfl
theorem downAll_go (l : List Mb) (i n : Nat) (h1 : ¬ n ≤ 2 * i + 1) (h2 : lessP l (childP l i n) i = true) : downAll l i n = downAll (swapP l i (childP l i n)) (childP l i n) n := by
  have := (childP_bd l i n h1).1
  rw [downAll, downP, if_neg h1, if_neg (by rw [h2]; decide), downAll]
  exact downP_fuel _ _ _ _ _ (by omega) (by omega)
theorem lineFrom_take (side : Int) : ∀ (l : List Mb) (k : Nat) (ms : List Int) (h : 0 < ms.length), lineFrom side l k ms = lineFrom side (pushP l ((k : Int) * side, ms[0])) (k + 1) (ms.drop 1)
  | l, k, [], h => absurd h (by simp)
  | l, k, m :: ms, h => rfl
theorem pushP_len (l : List Mb) (x : Mb) : (pushP l x).length = l.length + 1 := by rw [pushP, upP_len]; simp
theorem lineFrom_len (side : Int) : ∀ (ms : List Int) (l : List Mb) (k : Nat), (lineFrom side l k ms).length = l.length + ms.length
  | [], l, k => by simp [lineFrom]
  | m :: ms, l, k => by rw [lineFrom, lineFrom_len side ms, pushP_len]; simp; omega
theorem popP_len (l : List Mb) : (popP l).1.length = l.length - 1 := by
  rw [popP]
  simp only [List.length_take, downAll, downP_len, swapP_len]
  omega
theorem fixP_len (l : List Mb) (i n : Nat) : (fixP l i n).length = l.length := by
  rw [fixP]
  split
  · rw [downAll, downP_len]
  · rw [upP_len, downAll, downP_len]
theorem takenP_len (l : List Mb) (i : Nat) : (takenP l i).length = l.length := by
  rw [takenP]
  split
  · rfl
  · rw [fixP_len, swapP_len]
theorem removeP_len (l : List Mb) (i : Nat) : (removeP l i).length = l.length - 1 := by
  rw [removeP, List.length_take, takenP_len]; omega
theorem drainP_fuel : ∀ (f g : Nat) (l : List Mb), l.length ≤ f → l.length ≤ g → drainP f l = drainP g l
  | 0, 0, _, _, _ => rfl
  | 0, g + 1, l, h1, h2 => by rw [drainP, drainP, if_pos (by omega)]
  | f + 1, 0, l, h1, h2 => by rw [drainP, drainP, if_pos (by omega)]
  | f + 1, g + 1, l, h1, h2 => by
    rw [drainP, drainP]
    split
    · rfl
    · have := popP_len l
      rw [drainP_fuel f g _ (by omega) (by omega)]
theorem afterP_fuel (h : Int) : ∀ (f g : Nat) (l : List Mb), l.length ≤ f → l.length ≤ g → afterP f l h = afterP g l h
  | 0, 0, _, _, _ => rfl
  | 0, g + 1, l, h1, h2 => by rw [afterP, afterP, if_pos (by omega)]
  | f + 1, 0, l, h1, h2 => by rw [afterP, afterP, if_pos (by omega)]
  | f + 1, g + 1, l, h1, h2 => by
    rw [afterP, afterP]
    split
    · rfl
    · split
      · rfl
      · have := popP_len l
        rw [afterP_fuel h f g _ (by omega) (by omega)]

/-- A line of four at most, by cases. -/
theorem four {P : List Int → Prop} (h0 : P []) (h1 : ∀ a, P [a]) (h2 : ∀ a b, P [a, b]) (h3 : ∀ a b c, P [a, b, c]) (h4 : ∀ a b c d, P [a, b, c, d]) : ∀ ms : List Int, ms.length ≤ 4 → P ms
  | [], _ => h0
  | [a], _ => h1 a
  | [a, b], _ => h2 a b
  | [a, b, c], _ => h3 a b c
  | [a, b, c, d], _ => h4 a b c d
  | a :: b :: c :: d :: e :: l, h => by simp at h
theorem head_line (ms : List Int) (h : ms.length ≤ 4) : firstP (lineFrom 1 [] 0 ms) = if ms.length = 0 then -1 else ms.getD 0 0 :=
  four (P := fun ms => firstP (lineFrom 1 [] 0 ms) = if ms.length = 0 then -1 else ms.getD 0 0) rfl (fun _ => by kernel_rfl) (fun _ _ => by kernel_rfl) (fun _ _ _ => by kernel_rfl) (fun _ _ _ _ => by kernel_rfl) ms h
theorem tail_line (ms : List Int) (h : ms.length ≤ 4) : firstP (lineFrom (-1) [] 0 ms) = if ms.length = 0 then -1 else ms.getD (ms.length - 1) 0 :=
  four (P := fun ms => firstP (lineFrom (-1) [] 0 ms) = if ms.length = 0 then -1 else ms.getD (ms.length - 1) 0) rfl (fun _ => by kernel_rfl) (fun _ _ => by kernel_rfl) (fun _ _ _ => by kernel_rfl) (fun _ _ _ _ => by kernel_rfl) ms h
theorem drain_line (ms : List Int) (h : ms.length ≤ 4) : drainP 5 (lineFrom 1 [] 0 ms) = ms :=
  four (P := fun ms => drainP 5 (lineFrom 1 [] 0 ms) = ms) rfl (fun _ => by kernel_rfl) (fun _ _ => by kernel_rfl) (fun _ _ _ => by kernel_rfl) (fun _ _ _ _ => by kernel_rfl) ms h
theorem drain_push (ms : List Int) (x : Int) (h : ms.length ≤ 4) : drainP 5 (pushP (lineFrom 1 [] 0 ms) ((ms.length : Int), x)) = ms ++ [x] :=
  four (P := fun ms => drainP 5 (pushP (lineFrom 1 [] 0 ms) ((ms.length : Int), x)) = ms ++ [x]) rfl (fun _ => by kernel_rfl) (fun _ _ => by kernel_rfl) (fun _ _ _ => by kernel_rfl) (fun _ _ _ _ => by kernel_rfl) ms h
theorem drain_remove (ms : List Int) (i : Nat) (h : ms.length ≤ 4) (hi : i < ms.length) : drainP 5 (removeP (lineFrom 1 [] 0 ms) i) = ms.take i ++ ms.drop (i + 1) := by
  have h4 : i = 0 ∨ i = 1 ∨ i = 2 ∨ i = 3 := by omega
  revert hi
  refine four (P := fun ms => i < ms.length → drainP 5 (removeP (lineFrom 1 [] 0 ms) i) = ms.take i ++ ms.drop (i + 1)) (fun hi => absurd hi (by simp)) ?_ ?_ ?_ ?_ ms h
  · intro a hi
    simp only [List.length_cons, List.length_nil] at hi
    obtain rfl : i = 0 := by omega
    show drainP 5 (removeP (lineFrom 1 [] 0 [a]) 0) = []
    kernel_rfl
  · intro a b hi
    simp only [List.length_cons, List.length_nil] at hi
    have h5 : i = 0 ∨ i = 1 := by omega
    rcases h5 with rfl | rfl
    · show drainP 5 (removeP (lineFrom 1 [] 0 [a, b]) 0) = [b]
      kernel_rfl
    · show drainP 5 (removeP (lineFrom 1 [] 0 [a, b]) 1) = [a]
      kernel_rfl
  · intro a b c hi
    simp only [List.length_cons, List.length_nil] at hi
    have h5 : i = 0 ∨ i = 1 ∨ i = 2 := by omega
    rcases h5 with rfl | rfl | rfl
    · show drainP 5 (removeP (lineFrom 1 [] 0 [a, b, c]) 0) = [b, c]
      kernel_rfl
    · show drainP 5 (removeP (lineFrom 1 [] 0 [a, b, c]) 1) = [a, c]
      kernel_rfl
    · show drainP 5 (removeP (lineFrom 1 [] 0 [a, b, c]) 2) = [a, b]
      kernel_rfl
  · intro a b c d hi
    rcases h4 with rfl | rfl | rfl | rfl
    · show drainP 5 (removeP (lineFrom 1 [] 0 [a, b, c, d]) 0) = [b, c, d]
      kernel_rfl
    · show drainP 5 (removeP (lineFrom 1 [] 0 [a, b, c, d]) 1) = [a, c, d]
      kernel_rfl
    · show drainP 5 (removeP (lineFrom 1 [] 0 [a, b, c, d]) 2) = [a, b, d]
      kernel_rfl
    · show drainP 5 (removeP (lineFrom 1 [] 0 [a, b, c, d]) 3) = [a, b, c]
      kernel_rfl
theorem idx_line (ms : List Int) (x : Int) (h : ms.length ≤ 4) : idxP x (lineFrom 1 [] 0 ms) 0 = vAt ms x :=
  four (P := fun ms => idxP x (lineFrom 1 [] 0 ms) 0 = vAt ms x) rfl (fun _ => by kernel_rfl) (fun _ _ => by kernel_rfl) (fun _ _ _ => by kernel_rfl) (fun _ _ _ _ => by kernel_rfl) ms h
/-- Who comes behind one in a list; -1 where nobody does. -/
def behind (h : Int) : List Int → Int
  | [] => -1
  | m :: ms => if m = h then ms.getD 0 (-1) else behind h ms
theorem after_head (ms : List Int) (x : Int) (h : ms.length ≤ 4) : afterP 5 (lineFrom 1 [] 0 ms) x = behind x ms :=
  four (P := fun ms => afterP 5 (lineFrom 1 [] 0 ms) x = behind x ms) rfl (fun _ => by kernel_rfl) (fun _ _ => by kernel_rfl) (fun _ _ _ => by kernel_rfl) (fun _ _ _ _ => by kernel_rfl) ms h
theorem after_tail (ms : List Int) (x : Int) (h : ms.length ≤ 4) : afterP 5 (lineFrom (-1) [] 0 ms) x = behind x ms.reverse :=
  four (P := fun ms => afterP 5 (lineFrom (-1) [] 0 ms) x = behind x ms.reverse) rfl (fun _ => by kernel_rfl) (fun _ _ => by kernel_rfl) (fun _ _ _ => by kernel_rfl) (fun _ _ _ _ => by kernel_rfl) ms h
theorem behind_no {h : Int} : ∀ {l : List Int}, h ∉ l → behind h l = -1
  | [], _ => rfl
  | m :: l, hn => by rw [behind, if_neg (fun e => hn (by rw [e]; exact List.mem_cons_self)), behind_no (fun q => hn (List.mem_cons_of_mem _ q))]
theorem behind_at {h : Int} : ∀ {l : List Int} (i : Nat) (hi : i < l.length), l.Nodup → l[i] = h → behind h l = l.getD (i + 1) (-1)
  | [], i, hi, _, _ => by simp at hi
  | m :: l, 0, hi, hn, e => by rw [behind, if_pos (by simpa using e)]; simp
  | m :: l, i + 1, hi, hn, e => by
    have hi' : i < l.length := by simpa using hi
    have e' : l[i] = h := by simpa using e
    have hne : m ≠ h := fun q => (List.nodup_cons.1 hn).1 (by rw [q, ← e']; exact List.getElem_mem hi')
    rw [behind, if_neg hne, behind_at i hi' (List.nodup_cons.1 hn).2 e']
    simp
theorem next_line {n : Int} {ms : List Int} (hv : viewOk n ms = true) (h : Int) : behind h ms = nextOf n ms h ∧ behind h ms.reverse = prevOf n ms h := by
  have hn := (viewOk_parts hv).2.1
  by_cases hm : h ∈ ms
  · obtain ⟨i, hi, hve, he⟩ := vAt_mem hm
    have hr := next_at hv i hi
    rw [he] at hr
    refine ⟨?_, ?_⟩
    · rw [behind_at i hi hn he, hr.1, List.getD_eq_getElem?_getD]
      by_cases q : i + 1 < ms.length
      · rw [dif_pos q, List.getElem?_eq_getElem q]; rfl
      · rw [dif_neg q, List.getElem?_eq_none (by omega)]; rfl
    · have hl : ms.length - 1 - i < ms.reverse.length := by rw [List.length_reverse]; omega
      have he2 : ms.reverse[ms.length - 1 - i] = h := by
        rw [List.getElem_reverse, ← he]
        congr 1
        omega
      rw [behind_at _ hl ((List.reverse_perm ms).nodup_iff.2 hn) he2, hr.2, List.getD_eq_getElem?_getD]
      by_cases q : 0 < i
      · rw [if_pos q, List.getElem?_eq_getElem (by rw [List.length_reverse]; omega), List.getElem_reverse]
        show ms[_] = ms[_]
        congr 1
        omega
      · rw [if_neg q, List.getElem?_eq_none (by rw [List.length_reverse]; omega)]; rfl
  · have hr := next_none (n := n) (.inr hm)
    exact ⟨by rw [behind_no hm, hr.1], by rw [behind_no (by simpa using hm), hr.2]⟩

end Go.Proofs.Ytghhphhnalfjaaa
