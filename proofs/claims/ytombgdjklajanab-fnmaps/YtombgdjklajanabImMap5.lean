/-
  Chapter 5: the program's map of pages, PageOf, Mapped, Below, PagesOf, at every argument.
-/
import Derived.Test.YtombgdjklajanabImMap4
import Derived.Test.YtombgdjklajanabMap4
namespace Go.Proofs.Ytombgdjklajanab
open Go.RowKit
set_option linter.unusedVariables false

/-- Each place that has a page, as a run of its own. -/
def singles (l : List Int) : Nat → List (Int × Int × Int)
  | 0 => []
  | n + 1 => if l.getD n 0 = -1 then singles l n else singles l n ++ [((n : Int), 1, l.getD n 0)]
theorem singles_len (l : List Int) (n : Nat) : (singles l n).length ≤ n := by
  induction n with
  | zero => simp [singles]
  | succ n ih =>
    rw [singles]
    split
    · omega
    · rw [List.length_append, List.length_singleton]; omega
theorem singles_single (l : List Int) (n : Nat) (hn : n ≤ 16) (hv : ∀ j, j < n → -1 ≤ l.getD j 0 ∧ l.getD j 0 ≤ 23) : ∀ r ∈ singles l n, Single r := by
  induction n with
  | zero => intro r hr; simp [singles] at hr
  | succ n ih =>
    have ih' := ih (by omega) (fun j hj => hv j (by omega))
    rw [singles]
    split
    · exact ih'
    · intro r hr
      rcases List.mem_append.1 hr with hr | hr
      · exact ih' r hr
      · rw [List.mem_singleton] at hr
        subst hr
        have := hv n (by omega)
        refine ⟨rfl, ?_, ?_, ?_, ?_⟩ <;> simp only <;> omega
theorem join_singles (l : List Int) (n : Nat) (hv : ∀ j, j < n → -1 ≤ l.getD j 0 ∧ l.getD j 0 ≤ 23) : joinRuns (singles l n) = upto l n := by
  induction n with
  | zero => rfl
  | succ n ih =>
    have ih' := ih (fun j hj => hv j (by omega))
    have hn := hv n (by omega)
    rw [singles, upto, ← ih']
    unfold grow
    by_cases h : l.getD n 0 = -1
    · rw [if_pos h, if_pos (by omega)]
    · rw [if_neg h, if_neg (by omega), joinRuns, List.foldl_append]
      rfl
theorem upto_congr (a b : List Int) (n : Nat) (h : ∀ j, j < n → a.getD j 0 = b.getD j 0) : upto a n = upto b n := by
  induction n with
  | zero => rfl
  | succ n ih => rw [upto, upto, ih (fun j hj => h j (by omega)), h n (by omega)]
theorem getD_take (l : List Int) (s j : Nat) (hj : j < s) : (l.take s).getD j 0 = l.getD j 0 := by
  rw [List.getD_eq_getElem?_getD, List.getElem?_take_of_lt hj, List.getD_eq_getElem?_getD]
/-- Of the first s places there is the same map as where all others have none. -/
theorem mapOf_take (l : List Int) (size : Int) (s : Nat) (hl : l.length = 16) (hs : (s : Int) = min (max size 0) 16) : mapOf (l.take s) = mapOf (cutAt l size) := by
  have hs16 : s ≤ 16 := by omega
  rw [mapOf, mapOf, cutAt_length, List.length_take, hl, Nat.min_eq_left hs16]
  have h1 := upto_skip (cutAt l size) s (16 - s) (fun j h1 h2 => by rw [cutAt_get l size j (by omega), if_neg (by omega)]; omega)
  rw [show s + (16 - s) = 16 by omega] at h1
  rw [h1]
  refine upto_congr _ _ s (fun j hj => ?_)
  rw [getD_take l s j hj, cutAt_get l size j (by omega), if_pos (by omega)]

set_option maxRecDepth 100000 in
set_option maxHeartbeats 3200000 in
theorem implMapOf_any (v : Value) (l : List Int) (w : World) (hl : l.length ≤ 16) (hv : ∀ j, j < l.length → -1 ≤ l.getD j 0 ∧ l.getD j 0 ≤ 23) (r : Reads w.heap.size w v (l.map (Value.int .i64))) :
    Calls Try.prog 49 #[v] w fun e w' => ∃ v' : Value, e = .returned v' ∧ w'.ownsRow w.heap.size 66 3 v' (mapOf l).length ((mapOf l).flatMap runC) ∧ v' ≠ .slice none 0 0 ∧ Below w.heap.size w w' := by
  obtain ⟨i0, hi, hz0, hz1, hz2⟩ := info_parts Try.infoRun
  obtain ⟨o, cap, rfl, hm, hc, -⟩ := r
  obtain ⟨N, hN⟩ : ∃ N, l.length = N := ⟨_, rfl⟩
  have hlm : (l.map (Value.int .i64)).length = N := by simp [hN]
  rw [hlm]
  rw [hN] at hl hv
  have HC : Hid (∀ j, j < N → ∃ g off, o = some ⟨g, off, none⟩ ∧ g < w.heap.size ∧ w.cell? ⟨g, off + j, none⟩ = some (.int .i64 (l.getD j 0))) := fun j hj => hc j _ (by rw [List.getElem?_map, List.getElem?_eq_getElem (by omega), List.getD_eq_getElem?_getD, List.getElem?_eq_getElem (by omega)]; rfl)
  have HV : Hid _ := hv
  have HJ : Hid (joinRuns (singles l N) = mapOf l) := by rw [Hid, join_singles l N hv, mapOf, hN]
  have HSS : Hid (∀ r ∈ singles l N, Single r) := singles_single l N hl hv
  have own0 : (w.alloc (.cells #[] 66)).ownsRow w.heap.size 66 3 (.slice (some ⟨w.heap.size, 0, none⟩) 0 0) 0 [] := World.ownsRow_lit w #[] 0 (Nat.le_refl _) (Nat.zero_le _) rfl
  have d0 : Below w.heap.size w (w.alloc (.cells #[] 66)) := bw_alloc (Below.refl _ _)
  clear hc hm hlm hv hN
  go_enter Try.func49, Try.ntmps49
  go_wp2_with fail
  go_loopw [3, 9] (fun q i wr => ∃ (k g cp : Nat) (acc : List (Int × Int × Int)), k ≤ N ∧ i = .int .i64 k ∧ q = .slice (some ⟨g, 0, none⟩) acc.length cp ∧ acc = singles l k ∧ wr.ownsRow w.heap.size 66 3 (.slice (some ⟨g, 0, none⟩) acc.length cp) acc.length (acc.flatMap runC) ∧ Below w.heap.size w wr) (fun _ i _ => N - (intOf i).toNat)
  case atStart => exact ⟨0, _, _, [], Nat.zero_le _, rfl, rfl, rfl, own0, d0⟩
  case round =>
    clear own0 d0
    obtain ⟨k, g, cp, acc, hk, rfl, rfl, hacc, own, hb⟩ := hrel
    by_cases hlt : k < N
    · obtain ⟨g1, off, rfl, hg1, a0⟩ := HC.out k hlt
      have hvb := HV.out k hlt
      have hfew : acc.length ≤ k := by rw [hacc]; exact singles_len l k
      have HNX : Hid (singles l (k + 1) = if l.getD k 0 = -1 then acc else acc ++ [((k : Int), 1, l.getD k 0)]) := by rw [Hid, hacc]; rfl
      replace a0 := (hb.cell (p := ⟨g1, off + k, none⟩) hg1).trans a0
      clear hacc HC HV
      generalize l.getD k 0 = z at a0 hvb HNX
      have hk0 : (0 : Int) ≤ (k : Int) := by omega
      have hk1 : (k : Int) < (N : Int) := by omega
      by_cases hneg : z = -1
      · have HN2 : Hid (acc = singles l (k + 1)) := by rw [Hid, HNX.out, if_pos hneg]
        subst hneg
        go_wp2_with fail
        go_roundw
        case rel => exact ⟨k + 1, g, cp, acc, by omega, by go_num, rfl, HN2.out, own, hb⟩
        case measure => simp [intOf]; omega
      · have HN2 : Hid (acc ++ [((k : Int), 1, z)] = singles l (k + 1)) := by rw [Hid, HNX.out, if_neg hneg]
        have hz : (z != -1) = true := by simpa using hneg
        have OWNL : Hid (∀ q, (Value.slice (some ⟨g, 0, none⟩) acc.length cp).ownBlock = some q → w.heap.size ≤ q) := fun q hq => (own.lt q hq).1
        have OWN : Hid (∀ (o : Obj), (wr.alloc o).ownsRow w.heap.size 66 3 (.slice (some ⟨g, 0, none⟩) acc.length cp) acc.length (acc.flatMap runC)) := fun o => own.alloc o
        clear own hneg
        go_wp2_with (at_builtin; refine wpList_append_own _ rfl _ _ 67 rfl w.heap.size 66 i0 (.agg #[.int .i64 0, .int .i64 0, .int .i64 0]) 3 24 Try.underlying67 hi hz0 hz1 hz2 rfl (by decide) _ _ _ rfl (OWN.out _) ⟨wr.heap.size, 0, none⟩ 1 1 (runC ((k : Int), 1, z)) rfl rfl ?c1 ?c2 ?c3 ?c4 ?c5 ?_)
        case c1 => exact new_three _ _ _
        case c2 => intro u hu; simp [runC] at hu; rcases hu with rfl | rfl | rfl <;> rfl
        case c3 => have hmx : (20 : Nat) ≤ maxLen := by unfold maxLen; omega
                   omega
        case c4 => omega
        case c5 => have := hb.size; simp; omega
        intro v' w3 hown' hgrow hnil
        obtain ⟨g', cp', rfl, own9⟩ := run_behind (acc := acc) (x := ((k : Int), 1, z)) (base := w.heap.size) (w3 := w3) (v' := v') rfl (by simpa using hown') (by simpa using hnil)
        have hb9 : Below w.heap.size w w3 := (bw_alloc hb).grown hgrow (by have := hb.size; simp; omega) (fun q hq => OWNL.out q hq)
        have HO : Hid _ := own9
        clear hown' hgrow hnil own9 OWN
        go_wp2_with fail
        go_roundw
        case rel => exact ⟨k + 1, g', cp', _, by omega, by go_num, by simp, HN2.out, HO.out, hb9⟩
        case measure => simp [intOf]; omega
    · obtain rfl : k = N := by omega
      have hal : acc.length ≤ 16 := by rw [hacc]; have := singles_len l k; omega
      rw [← hacc] at HJ HSS
      have rd := ReadsR.of_own runC_len own
      have hbs := hb.size
      clear own hacc
      go_wp2_with fail
      refine (joined_any _ acc _ HSS.out hal rd).mono ?_
      rintro e w2 ⟨v', rfl, own2, hnn, b2⟩
      have HO : Hid (w2.ownsRow w.heap.size 66 3 v' (mapOf l).length ((mapOf l).flatMap runC)) := by rw [Hid, ← HJ.out]; exact owns_mono own2 hbs
      have hb2 := bw_call hb b2
      clear own2 b2 rd
      go_wp2_with fail
      go_ret
      exact ⟨v', rfl, HO.out, hnn, hb2⟩

end Go.Proofs.Ytombgdjklajanab
