/-
  Chapter 5: the specification's l5Pages and l5Map.
-/
import Derived.Test.YtehjahegokeofakMap1
import Derived.Deep.RegionLaw
namespace Go.Proofs.Ytehjahegokeofak
open Go.RowKit
set_option linter.unusedVariables false

/-- Each run of a right map lies in its bounds. -/
theorem okFrom_mem (rs : List (Int × Int × Int)) (e : Int) (pv : Option (Int × Int × Int)) (h : okFrom e pv rs = true) (he : 0 ≤ e) : ∀ r ∈ rs, 0 ≤ r.1 ∧ 1 ≤ r.2.1 ∧ r.1 + r.2.1 ≤ 16 ∧ 0 ≤ r.2.2 ∧ r.2.2 + r.2.1 ≤ 24 := by
  induction rs generalizing e pv with
  | nil => intro r hr; cases hr
  | cons q qs ih =>
    obtain ⟨f, c, p⟩ := q
    rw [okFrom, Bool.and_eq_true, runOk_iff] at h
    intro r hr
    rcases List.mem_cons.1 hr with rfl | hr
    · simp only; omega
    · exact ih _ _ h.2 (by simp only; omega) r hr

theorem take_fold (rs : List (Int × Int × Int)) (i : Nat) (h : i < rs.length) : (rs.take (i + 1)).foldl layRun none16 = layRun ((rs.take i).foldl layRun none16) rs[i] := by
  rw [List.take_succ_eq_append_getElem h, List.foldl_append]; rfl

set_option maxHeartbeats 3200000 in
theorem l5Pages_any (v : Value) (rs : List (Int × Int × Int)) (w : World) (hok : mapOk rs = true) (r : ReadsR 3 runC w.heap.size w v rs) :
    Calls Try.prog 41 #[v] w fun e w' => ∃ g cap : Nat, e = .returned (.slice (some ⟨g, 0, none⟩) 16 cap) ∧ w'.ownsRow w.heap.size 2 1 (.slice (some ⟨g, 0, none⟩) 16 cap) 16 ((pages rs).map (Value.int .i64)) ∧ Below w.heap.size w w' := by
  obtain ⟨i0, hi, hz0, hz1, hz2⟩ := info_parts Try.infoI64
  obtain ⟨o, cap, rfl, hm, hc, -⟩ := r
  have HC : Hid _ := three_cells hc
  have HM : Hid _ := okFrom_mem rs 0 none (mapOk_from hok) (by omega)
  unfold maxLen at hm
  have own0 : (w.alloc (.cells #[] 2)).ownsRow w.heap.size 2 1 (.slice (some ⟨w.heap.size, 0, none⟩) 0 0) 0 [] := World.ownsRow_lit w #[] 0 (Nat.le_refl _) (Nat.zero_le _) rfl
  have d0 : Below w.heap.size w (w.alloc (.cells #[] 2)) := bw_alloc (Below.refl _ _)
  clear hc hok
  go_enter Try.func41, Try.ntmps41
  go_wp2_with fail
  go_loopw [3, 4] (fun q i wr => ∃ (k g cp : Nat), k ≤ 16 ∧ i = .int .i64 k ∧ q = .slice (some ⟨g, 0, none⟩) k cp ∧ wr.ownsRow w.heap.size 2 1 (.slice (some ⟨g, 0, none⟩) k cp) k ((List.replicate k (-1 : Int)).map (Value.int .i64)) ∧ Below w.heap.size w wr) (fun _ i _ => 16 - (intOf i).toNat)
  case atStart => exact ⟨0, _, _, Nat.zero_le _, rfl, rfl, own0, d0⟩
  case round =>
    clear own0 d0
    obtain ⟨k, g, cp, hk, rfl, rfl, own, hb⟩ := hrel
    by_cases hlt : k < 16
    · have hk1 : (k : Int) < 16 := by omega
      go_wp2_with (at_builtin; refine wpList_append_own _ rfl _ _ 35 rfl w.heap.size 2 i0 (.int .i64 0) 1 8 Try.underlying35 hi hz0 hz1 hz2 rfl (by decide) _ _ _ rfl (own.alloc _) ⟨wr.heap.size, 0, none⟩ 1 1 [.int .i64 (-1)] rfl rfl ?c1 ?c2 ?c3 ?c4 ?c5 ?_)
      case c1 => exact new_one _ _ _
      case c2 => intro u hu; simp at hu; subst hu; rfl
      case c3 => unfold maxLen; omega
      case c4 => omega
      case c5 => have := hb.size; simp; omega
      intro v' w3 hown' hgrow hnil
      have hb3 : Below w.heap.size w w3 := (bw_alloc hb).grown hgrow (by have := hb.size; simp; omega) (fun q hq => (own.lt q hq).1)
      have e1 : (List.replicate k (-1 : Int)).map (Value.int .i64) ++ [.int .i64 (-1)] = (List.replicate (k + 1) (-1 : Int)).map (Value.int .i64) := by simp [List.replicate_succ']
      have own3 : w3.ownsRow w.heap.size 2 1 v' (k + 1) ((List.replicate (k + 1) (-1 : Int)).map (Value.int .i64)) := by rw [← e1]; simpa using hown'
      obtain ⟨g', cp', hv'⟩ := owns_form own3
      subst hv'
      have HO : Hid _ := own3
      clear hown' hgrow hnil own own3 e1
      go_wp2_with fail
      go_roundw
      case rel => exact ⟨k + 1, g', cp', by omega, by go_num, rfl, HO.out, hb3⟩
      case measure => simp [intOf]; omega
    · obtain rfl : k = 16 := by omega
      have e16 : List.replicate 16 (-1 : Int) = none16 := rfl
      rw [e16] at own
      have hg0 := own.lt g rfl
      go_wp2_with fail
      go_loopw [5] (fun i wr2 => ∃ (q : Nat), q ≤ rs.length ∧ i = .int .i64 q ∧ wr2.ownsRow w.heap.size 2 1 (.slice (some ⟨g, 0, none⟩) 16 cp) 16 (((rs.take q).foldl layRun none16).map (Value.int .i64)) ∧ Below w.heap.size w wr2) (fun i _ => rs.length - (intOf i).toNat)
      case atStart => exact ⟨0, Nat.zero_le _, rfl, own, hb⟩
      case round =>
        clear own hb
        obtain ⟨q, hq, rfl, own, hb⟩ := hrel
        by_cases hlt2 : q < rs.length
        · obtain ⟨g1, off, rfl, hg1, a0, a1, a2⟩ := HC.out q hlt2
          have hr := HM.out rs[q] (List.getElem_mem hlt2)
          have HTF : Hid _ := take_fold rs q hlt2
          have hl16 : ((rs.take q).foldl layRun none16).length = 16 := by rw [foldl_length]; rfl
          generalize (rs.take q).foldl layRun none16 = L at own HTF hl16
          generalize rs[q] = x at a0 a1 a2 hr HTF
          obtain ⟨f, c, p⟩ := x
          simp only at a0 a1 a2 hr
          obtain ⟨F, rfl⟩ := Int.eq_ofNat_of_zero_le hr.1
          obtain ⟨C, rfl⟩ := Int.eq_ofNat_of_zero_le (show 0 ≤ c by omega)
          have HL : Hid (L.length = 16) := hl16
          clear hl16
          go_wp2_with fail
          go_loopw [6] (fun i wr3 => ∃ (k : Nat), k ≤ C ∧ i = .int .i64 k ∧ wr3.ownsRow w.heap.size 2 1 (.slice (some ⟨g, 0, none⟩) 16 cp) 16 ((lay L F p k).map (Value.int .i64)) ∧ Below w.heap.size w wr3) (fun i _ => C - (intOf i).toNat)
          case atStart => exact ⟨0, Nat.zero_le _, rfl, own, hb⟩
          case round =>
            clear own hb
            obtain ⟨k, hk2, rfl, own, hb⟩ := hrel
            replace a0 := (hb.cell (p := ⟨g1, off + q * 3, none⟩) hg1).trans a0
            replace a1 := (hb.cell (p := ⟨g1, off + q * 3 + 1, none⟩) hg1).trans a1
            replace a2 := (hb.cell (p := ⟨g1, off + q * 3 + 2, none⟩) hg1).trans a2
            have hne : ¬ g = g1 := by have := (own.lt g rfl).1; omega
            have hne' : ¬ g1 = g := fun e => hne e.symm
            by_cases hlt3 : k < C
            · have hll : (lay L F p k).length = 16 := by rw [lay_length]; exact HL.out
              have t0 := own.cellAt (F + k) (by omega)
              have t1 := own.frozenAt (F + k)
              rw [List.getElem?_map, List.getElem?_eq_getElem (show F + k < (lay L F p k).length by omega)] at t0
              simp only [Option.map_some] at t0
              have hst := (own.stored (F + k) (.int .i64 (p + k))).1
              rw [← List.map_set] at hst
              have hbf : Below w.heap.size w (wr.setCell ⟨g, F + k, none⟩ (.int .i64 (p + k))) := bw_set (p := ⟨g, F + k, none⟩) hb (own.lt g rfl).1 _
              have HO : Hid _ := And.intro hst hbf
              generalize (lay L F p k)[F + k] = y at t0
              clear hst hbf own hll
              have hi0 : (0 : Int) ≤ (F : Int) + (k : Int) := by omega
              have hi1 : (F : Int) + (k : Int) < 16 := by omega
              have hw1 : IntKind.i64.wrap ((F : Int) + (k : Int)) = (F : Int) + (k : Int) := by rw [IntKind.wrap_i64]; omega
              have hw2 : IntKind.i64.wrap (p + (k : Int)) = p + (k : Int) := by rw [IntKind.wrap_i64]; omega
              have hw3 : ((F : Int) + (k : Int)).toNat = F + k := by omega
              have hj0 : (0 : Int) ≤ (q : Int) := by omega
              have hj1 : (q : Int) < (rs.length : Int) := by omega
              go_wp2_with fail
              go_region
              go_wp2_with fail
              go_roundw
              case rel => exact ⟨k + 1, by omega, by go_num, HO.out.1, bw_drew HO.out.2⟩
              case measure => simp [intOf]; omega
            · obtain rfl : k = C := by omega
              have e2 : ((rs.take (q + 1)).foldl layRun none16) = lay L F p k := by rw [HTF.out]; rfl
              rw [← e2] at own
              have HO : Hid _ := own
              clear own e2
              go_wp2_with fail
              go_roundw
              case rel => exact ⟨q + 1, by omega, by go_num, HO.out, hb⟩
              case measure => simp [intOf]; omega
        · have hfin : rs.take q = rs := List.take_of_length_le (by omega)
          rw [hfin] at own
          have HO : Hid _ := own
          clear own hfin
          go_wp2_with fail
          go_ret
          exact ⟨g, cp, rfl, HO.out, hb⟩

theorem grow_neg (k : Nat) (v : Int) (acc : List (Int × Int × Int)) (h : v < 0) : grow k v acc = acc := by unfold grow; rw [if_pos h]
theorem grow_nil (k : Nat) (v : Int) (h : ¬ v < 0) : grow k v [] = [((k : Int), 1, v)] := by unfold grow; rw [if_neg h]; rfl
theorem grow_on (k : Nat) (v : Int) (pre : List (Int × Int × Int)) (f c p : Int) (h : ¬ v < 0) (h1 : f + c = k) (h2 : p + c = v) : grow k v (pre ++ [(f, c, p)]) = pre ++ [(f, c + 1, p)] := by
  unfold grow
  rw [if_neg h, List.getLast?_concat]
  simp only
  rw [if_pos ⟨h1, h2⟩, List.dropLast_concat]
theorem grow_new (k : Nat) (v : Int) (pre : List (Int × Int × Int)) (f c p : Int) (h : ¬ v < 0) (h1 : ¬ (f + c = k ∧ p + c = v)) : grow k v (pre ++ [(f, c, p)]) = pre ++ [(f, c, p)] ++ [((k : Int), 1, v)] := by
  unfold grow
  rw [if_neg h, List.getLast?_concat]
  simp only
  rw [if_neg h1]
theorem snoc_of {α : Type} (l : List α) (h : l ≠ []) : ∃ pre x, l = pre ++ [x] := ⟨l.dropLast, l.getLast h, (List.dropLast_concat_getLast h).symm⟩

theorem new_three (w : World) (r : Int × Int × Int) (t : TypeId) : ∀ (j : Nat) (u : Value), (runC r)[j]? = some u → (w.alloc (.cells #[.int .i64 r.1, .int .i64 r.2.1, .int .i64 r.2.2] t)).cell? ((⟨w.heap.size, 0, none⟩ : Addr).add j) = some u := by
  intro j u hj
  rw [addr_add]
  match j, hj with
  | 0, hj => simp [runC] at hj; subst hj; simp [go_sem]
  | 1, hj => simp [runC] at hj; subst hj; simp [go_sem]
  | 2, hj => simp [runC] at hj; subst hj; simp [go_sem]

end Go.Proofs.Ytehjahegokeofak
