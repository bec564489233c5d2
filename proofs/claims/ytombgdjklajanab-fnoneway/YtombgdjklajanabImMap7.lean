/-
  Chapter 5: the program's Below and PagesOf, at every argument.
-/
import Derived.Test.YtombgdjklajanabImMap6
namespace Go.Proofs.Ytombgdjklajanab
open Go.RowKit
set_option linter.unusedVariables false

/-- The first cells of a row are read. -/
theorem reads_first {w : World} {base g n cap s : Nat} {e : TypeId} {L : List Int} (h : w.ownsRow base e 1 (.slice (some ⟨g, 0, none⟩) n cap) n (L.map (Value.int .i64))) (hs : s ≤ n) (hn : n = L.length) : Reads w.heap.size w (.slice (some ⟨g, 0, none⟩) s cap) ((L.take s).map (Value.int .i64)) := by
  have hr := Reads.of_own h
  obtain ⟨o, cap', e1, hm, hc, hroom⟩ := hr
  simp only [Value.slice.injEq] at e1
  obtain ⟨rfl, e2, rfl⟩ := e1
  rw [List.length_map] at e2 hm hroom
  have hl : ((L.take s).map (Value.int .i64)).length = s := by rw [List.length_map, List.length_take]; omega
  refine ⟨some ⟨g, 0, none⟩, cap, by rw [hl], by rw [hl]; omega, fun j u hj => ?_, by rw [hl]; omega⟩
  have hjs : j < s := by have := (List.getElem?_eq_some_iff.1 hj).1; rwa [hl] at this
  refine hc j u ?_
  rw [List.getElem?_map, List.getElem?_take_of_lt hjs] at hj
  rw [List.getElem?_map]
  exact hj

set_option maxHeartbeats 3200000 in
theorem implBelow_any (v : Value) (rs : List (Int × Int × Int)) (size : Int) (w : World) (hsz : -9223372036854775808 ≤ size ∧ size ≤ 9223372036854775807) (hfit : FitRuns rs) (r : ReadsR 3 runC w.heap.size w v rs) :
    Calls Try.prog 20 #[v, .int .i64 size] w fun e w' => ∃ v' : Value, e = .returned v' ∧ w'.ownsRow w.heap.size 66 3 v' (belowM rs size).length ((belowM rs size).flatMap runC) ∧ v' ≠ .slice none 0 0 ∧ Below w.heap.size w w' := by
  go_enter Try.func20, Try.ntmps20
  go_wp2_with fail
  refine (implMapOk_any v rs _ hfit r).mono ?_
  rintro e w1 ⟨rfl, b1⟩
  have r1 := (r.below b1).mono b1.size
  have bs := b1.size
  cases hok : mapOk rs
  · have HV : Hid (belowM rs size = []) := by rw [Hid, belowM, if_neg (by rw [hok]; simp)]
    have HO : Hid ((w1.alloc (.cells #[] 66)).ownsRow w.heap.size 66 3 (.slice (some ⟨w1.heap.size, 0, none⟩) 0 0) 0 []) := owns_mono (own_none w1) bs
    have hb := bw_alloc (o := .cells #[] 66) b1
    clear r r1
    go_wp2_with fail
    go_ret
    exact ⟨.slice (some ⟨w1.heap.size, 0, none⟩) 0 0, rfl, by rw [HV.out]; exact HO.out, by simp, hb⟩
  · have HV0 : Hid (belowM rs size = mapOf (cutAt (pages rs) size)) := by rw [Hid, belowM, if_pos hok]
    have HOK : Hid _ := hok
    obtain ⟨s, hS⟩ : ∃ s : Nat, (s : Int) = min (max size 0) 16 := ⟨(min (max size 0) 16).toNat, by omega⟩
    have hs16 : s ≤ 16 := by omega
    have HMT : Hid (mapOf ((pages rs).take s) = mapOf (cutAt (pages rs) size)) := mapOf_take (pages rs) size s (pages_length rs) hS
    have HTL : Hid (((pages rs).take s).length ≤ 16) := by rw [Hid, List.length_take]; omega
    have HTR : Hid (∀ j, j < ((pages rs).take s).length → -1 ≤ ((pages rs).take s).getD j 0 ∧ ((pages rs).take s).getD j 0 ≤ 23) := fun j hj => by
      rw [List.length_take, pages_length] at hj
      rw [getD_take _ _ _ (by omega)]
      exact pages_range rs HOK.out j (by omega)
    clear hok
    go_wp2_with fail
    refine (pageByPlace_any v rs _ HOK.out r1).mono ?_
    rintro e w3 ⟨c, rfl, hcl, b3⟩
    have hpl := pages_length rs
    have hcs := arr_size (pages rs) c hcl
    rw [hpl] at hcs
    have H1 : Hid (c.all (·.oneCell') = true) := one_cells _ c hcl
    have HI : Hid ((Try.prog.info? 62).map (·.size) = some c.size) := by rw [hcs]; exact info16
    have HZ : Hid ((#[.int .i64 0, .int .i64 0, .int .i64 0, .int .i64 0, .int .i64 0, .int .i64 0, .int .i64 0, .int .i64 0, .int .i64 0, .int .i64 0, .int .i64 0, .int .i64 0, .int .i64 0, .int .i64 0, .int .i64 0, .int .i64 0] : Array Value).size = c.size) := by rw [hcs]; rfl
    have HROW : Hid ((w3.alloc (.cells #[.int .i64 0, .int .i64 0, .int .i64 0, .int .i64 0, .int .i64 0, .int .i64 0, .int .i64 0, .int .i64 0, .int .i64 0, .int .i64 0, .int .i64 0, .int .i64 0, .int .i64 0, .int .i64 0, .int .i64 0, .int .i64 0] 62)).heap[w3.heap.size]? = some (.cells #[.int .i64 0, .int .i64 0, .int .i64 0, .int .i64 0, .int .i64 0, .int .i64 0, .int .i64 0, .int .i64 0, .int .i64 0, .int .i64 0, .int .i64 0, .int .i64 0, .int .i64 0, .int .i64 0, .int .i64 0, .int .i64 0] 62 (0, 0))) := heap_alloc_new w3 _
    have own := own_arr w3 c (pages rs) hcl hpl
    have bA := bw_alloc (o := .cells c 62) b3
    have HRD : Hid _ := reads_first own hs16 hpl.symm
    have HBS : Hid _ := bA
    have hsw : (w3.alloc (.cells #[.int .i64 0, .int .i64 0, .int .i64 0, .int .i64 0, .int .i64 0, .int .i64 0, .int .i64 0, .int .i64 0, .int .i64 0, .int .i64 0, .int .i64 0, .int .i64 0, .int .i64 0, .int .i64 0, .int .i64 0, .int .i64 0] 62)).setRow w3.heap.size c = w3.alloc (.cells c 62) := World.setRow_alloc_new w3 #[.int .i64 0, .int .i64 0, .int .i64 0, .int .i64 0, .int .i64 0, .int .i64 0, .int .i64 0, .int .i64 0, .int .i64 0, .int .i64 0, .int .i64 0, .int .i64 0, .int .i64 0, .int .i64 0, .int .i64 0, .int .i64 0] c _
    have HSS : Hid ((s : Int) = min (max size 0) 16) := hS
    have fin : ∀ (w5 : World) (v' : Value), w5.ownsRow (w3.alloc (.cells c 62)).heap.size 66 3 v' (mapOf ((pages rs).take s)).length ((mapOf ((pages rs).take s)).flatMap runC) → Below (w3.alloc (.cells c 62)).heap.size (w3.alloc (.cells c 62)) w5 → Hid (w5.ownsRow w.heap.size 66 3 v' (belowM rs size).length ((belowM rs size).flatMap runC) ∧ Below w.heap.size w w5) := fun w5 v' own5 b5 => by
      rw [HMT.out] at own5
      rw [HV0.out]
      exact ⟨owns_mono own5 (Nat.le_trans bs HBS.out.size), bw_call (bw_call b1 HBS.out) b5⟩
    have FIN : Hid _ := fin
    clear own hpl hcl hcs bA hS fin HMT HV0
    by_cases ha : size < 0
    · obtain rfl : s = 0 := by have := HSS.out; omega
      go_wp2_with (with_reducible refine wpList_store_arr rfl _ _ 62 rfl w3.heap.size rfl c rfl #[.int .i64 0, .int .i64 0, .int .i64 0, .int .i64 0, .int .i64 0, .int .i64 0, .int .i64 0, .int .i64 0, .int .i64 0, .int .i64 0, .int .i64 0, .int .i64 0, .int .i64 0, .int .i64 0, .int .i64 0, .int .i64 0] 62 HROW.out HI.out HZ.out H1.out ?_)
      refine (implMapOf_any _ ((pages rs).take 0) _ HTL.out HTR.out HRD.out).mono ?_
      rintro e w5 ⟨v', rfl, own5, hnn, b5⟩
      have HF := FIN.out w5 v' own5 b5
      clear own5 b5
      go_wp2_with fail
      go_ret
      exact ⟨v', rfl, HF.out.1, hnn, HF.out.2⟩
    · obtain ⟨n, rfl⟩ := Int.eq_ofNat_of_zero_le (show 0 ≤ size by omega)
      by_cases hb : 16 < n
      · obtain rfl : s = 16 := by have := HSS.out; omega
        have hbi : (16 : Int) < (n : Int) := by omega
        go_wp2_with (with_reducible refine wpList_store_arr rfl _ _ 62 rfl w3.heap.size rfl c rfl #[.int .i64 0, .int .i64 0, .int .i64 0, .int .i64 0, .int .i64 0, .int .i64 0, .int .i64 0, .int .i64 0, .int .i64 0, .int .i64 0, .int .i64 0, .int .i64 0, .int .i64 0, .int .i64 0, .int .i64 0, .int .i64 0] 62 HROW.out HI.out HZ.out H1.out ?_)
        refine (implMapOf_any _ ((pages rs).take 16) _ HTL.out HTR.out HRD.out).mono ?_
        rintro e w5 ⟨v', rfl, own5, hnn, b5⟩
        have HF := FIN.out w5 v' own5 b5
        clear own5 b5
        go_wp2_with fail
        go_ret
        exact ⟨v', rfl, HF.out.1, hnn, HF.out.2⟩
      · obtain rfl : s = n := by have := HSS.out; omega
        have hbi : (s : Int) ≤ 16 := by omega
        go_wp2_with (with_reducible refine wpList_store_arr rfl _ _ 62 rfl w3.heap.size rfl c rfl #[.int .i64 0, .int .i64 0, .int .i64 0, .int .i64 0, .int .i64 0, .int .i64 0, .int .i64 0, .int .i64 0, .int .i64 0, .int .i64 0, .int .i64 0, .int .i64 0, .int .i64 0, .int .i64 0, .int .i64 0, .int .i64 0] 62 HROW.out HI.out HZ.out H1.out ?_)
        refine (implMapOf_any _ ((pages rs).take s) _ HTL.out HTR.out HRD.out).mono ?_
        rintro e w5 ⟨v', rfl, own5, hnn, b5⟩
        have HF := FIN.out w5 v' own5 b5
        clear own5 b5
        go_wp2_with fail
        go_ret
        exact ⟨v', rfl, HF.out.1, hnn, HF.out.2⟩

theorem filter_ne (l : List Int) (h : ∀ x ∈ l, -1 ≤ x) : l.filter (fun p => decide (p ≠ -1)) = l.filter (fun p => decide (0 ≤ p)) := by
  apply List.filter_congr
  intro x hx
  have := h x hx
  rw [decide_eq_decide]
  omega
theorem pages_mem (rs : List (Int × Int × Int)) (h : mapOk rs = true) : ∀ x ∈ pages rs, -1 ≤ x := fun x hx => by
  obtain ⟨j, hj, rfl⟩ := List.getElem_of_mem hx
  have := (pages_range rs h j (by rw [pages_length] at hj; exact hj)).1
  rwa [List.getD_eq_getElem?_getD, List.getElem?_eq_getElem hj] at this

set_option maxHeartbeats 1600000 in
theorem implPagesOf_any (v : Value) (rs : List (Int × Int × Int)) (w : World) (hfit : FitRuns rs) (r : ReadsR 3 runC w.heap.size w v rs) :
    Calls Try.prog 29 #[v] w fun e w' => ∃ v' : Value, e = .returned v' ∧ w'.ownsRow w.heap.size 2 1 v' (pagesOf rs).length ((pagesOf rs).map (Value.int .i64)) ∧ v' ≠ .slice none 0 0 ∧ Below w.heap.size w w' := by
  obtain ⟨i0, hi, hz0, hz1, hz2⟩ := info_parts Try.infoI64
  have own0 : (w.alloc (.cells #[] 2)).ownsRow w.heap.size 2 1 (.slice (some ⟨w.heap.size, 0, none⟩) 0 0) 0 [] := World.ownsRow_lit w #[] 0 (Nat.le_refl _) (Nat.zero_le _) rfl
  have d0 : Below w.heap.size w (w.alloc (.cells #[] 2)) := bw_alloc (Below.refl _ _)
  have r0 := (r.below d0).mono d0.size
  clear r
  go_enter Try.func29, Try.ntmps29
  go_wp2_with fail
  generalize w.alloc (.cells #[] 2) = W0 at *
  refine (implMapOk_any v rs _ hfit r0).mono ?_
  rintro e w1 ⟨rfl, b1⟩
  have r1 := (r0.below b1).mono b1.size
  have own1 := owns_below own0 b1
  have d1 := bw_call d0 b1
  clear own0 d0 r0 b1
  cases hok : mapOk rs
  · have HV : Hid (pagesOf rs = []) := by rw [Hid, pagesOf, if_neg (by rw [hok]; simp)]
    have HO : Hid (w1.ownsRow w.heap.size 2 1 (.slice (some ⟨w.heap.size, 0, none⟩) 0 0) 0 []) := own1
    clear r1 own1
    go_wp2_with fail
    go_ret
    exact ⟨.slice (some ⟨w.heap.size, 0, none⟩) 0 0, rfl, by rw [HV.out]; exact HO.out, by simp, d1⟩
  · have HV : Hid (pagesOf rs = (pages rs).filter (fun p => decide (0 ≤ p))) := by rw [Hid, pagesOf, if_pos hok]
    have HOK : Hid _ := hok
    have HPM : Hid (∀ j, j < 16 → -1 ≤ (pages rs).getD j 0) := fun j hj => (pages_range rs hok j hj).1
    clear hok
    go_wp2_with fail
    refine (pageByPlace_any v rs _ HOK.out r1).mono ?_
    rintro e w3 ⟨c, rfl, hcl, b3⟩
    have own3 := owns_below own1 b3
    have d3 := bw_call d1 b3
    have hpl := pages_length rs
    have HIX : Hid (∀ j : Nat, j < 16 → ∀ w : World, (Instr.index 62 (.agg c) (.int .i64 (j : Int))).run Try.prog w = .ok (.int .i64 ((pages rs).getD j 0)) w) := fun j hj w => index16 c j _ hj (arr_at (pages rs) c hcl j (by omega)) w
    obtain ⟨L, hL⟩ : ∃ L, pages rs = L := ⟨_, rfl⟩
    rw [hL] at HIX hpl HPM HV
    have HPL : Hid (L.length = 16) := hpl
    clear hL own1 d1 b3 hcl hpl r1
    go_wp2_with fail
    go_loopw [3, 13] (fun q i wr => ∃ (k b cq : Nat) (xs : List Int), k ≤ 16 ∧ i = .int .i64 k ∧ xs = (L.take k).filter (fun p => decide (0 ≤ p)) ∧ q = .slice (some ⟨b, 0, none⟩) xs.length cq ∧ wr.ownsRow w.heap.size 2 1 (.slice (some ⟨b, 0, none⟩) xs.length cq) xs.length (xs.map (Value.int .i64)) ∧ Below w.heap.size w wr) (fun _ i _ => 16 - (intOf i).toNat)
    case atStart => exact ⟨0, w.heap.size, 0, [], Nat.zero_le _, rfl, by simp, rfl, own3, d3⟩
    case round =>
      clear own3 d3
      obtain ⟨k, b, cq, xs, hk, rfl, hxs, rfl, own, hb⟩ := hrel
      by_cases hlt : k < 16
      · have hix := HIX.out k hlt
        have hpm := HPM.out k hlt
        have hxl : xs.length ≤ 16 := by
          rw [hxs]
          have h1 : ((L.take k).filter (fun p => decide (0 ≤ p))).length ≤ (L.take k).length := List.length_filter_le _ _
          rw [List.length_take] at h1
          omega
        have hft := filter_take L k (by have := HPL.out; omega)
        rw [← hxs] at hft
        have hgd : L.getD k 0 = L[k]'(by have := HPL.out; omega) := by rw [List.getD_eq_getElem?_getD, List.getElem?_eq_getElem (by have := HPL.out; omega)]; rfl
        rw [← hgd] at hft
        have HFT : Hid _ := hft
        clear hft hgd hxs
        generalize L.getD k 0 = z at hix HFT hpm
        have h0 : (0 : Int) ≤ (k : Int) := by omega
        have h1 : (k : Int) < 16 := by omega
        by_cases hz : 0 ≤ z
        · have HN : Hid (xs ++ [z] = (L.take (k + 1)).filter (fun p => decide (0 ≤ p))) := by rw [Hid, HFT.out, if_pos hz]
          have hzb : (z != -1) = true := by rw [bne_iff_ne]; omega
          go_wp2_with (at_builtin; refine wpList_append_own _ rfl _ _ 24 rfl w.heap.size 2 i0 (.int .i64 0) 1 8 Try.underlying24 hi hz0 hz1 hz2 rfl (by decide) _ _ _ rfl (own.alloc _) ⟨wr.heap.size, 0, none⟩ 1 1 [.int .i64 z] rfl rfl ?c1 ?c2 ?c3 ?c4 ?c5 ?_)
          case c1 => exact new_one _ _ _
          case c2 => intro u hu; simp at hu; subst hu; rfl
          case c3 => unfold maxLen; omega
          case c4 => omega
          case c5 => have := hb.size; simp; omega
          intro v' w4 hown' hgrow hnil
          have own4 : w4.ownsRow w.heap.size 2 1 v' (xs ++ [z]).length ((xs ++ [z]).map (Value.int .i64)) := by simpa using hown'
          obtain ⟨b', cq', hv'⟩ : ∃ b' cq', v' = .slice (some ⟨b', 0, none⟩) (xs ++ [z]).length cq' := by
            rcases own4.2 with ⟨e, _⟩ | ⟨b', cq', _, e, _⟩
            · exact absurd e hnil
            · exact ⟨b', cq', e⟩
          have hb4 : Below w.heap.size w w4 := (bw_alloc hb).grown hgrow (by have := hb.size; simp; omega) (fun q hq => (own.lt q (by simpa [Value.ownBlock] using hq)).1)
          subst hv'
          have HO : Hid _ := And.intro own4 hb4
          clear hown' hgrow hnil own4 hb4 own
          go_wp2_with fail
          go_roundw
          case rel => exact ⟨k + 1, b', cq', xs ++ [z], by omega, by go_num, HN.out, by simp, HO.out.1, HO.out.2⟩
          case measure => simp [intOf]; omega
        · obtain rfl : z = -1 := by omega
          have HN : Hid (xs = (L.take (k + 1)).filter (fun p => decide (0 ≤ p))) := by rw [Hid, HFT.out, if_neg hz, List.append_nil]
          clear hz
          go_wp2_with fail
          go_roundw
          case rel => exact ⟨k + 1, b, cq, xs, by omega, by go_num, HN.out, rfl, own, hb⟩
          case measure => simp [intOf]; omega
      · obtain rfl : k = 16 := by omega
        have hfin : L.take 16 = L := List.take_of_length_le (by rw [HPL.out]; exact Nat.le_refl _)
        rw [hfin] at hxs
        have HXL : Hid (xs = L.filter (fun p => decide (0 ≤ p))) := hxs
        clear hxs hfin
        go_wp2_with fail
        go_ret
        rw [HV.out, ← HXL.out]
        exact ⟨_, rfl, own, by simp, hb⟩

end Go.Proofs.Ytombgdjklajanab
