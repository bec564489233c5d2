/-
  Chapter 5: the specification's PageOf, Mapped, Below, PagesOf, at every argument.
-/
import Derived.Test.YtehjahegokeofabMap2
namespace Go.Proofs.Ytehjahegokeofab
open Go.RowKit
set_option linter.unusedVariables false

def pageOf (rs : List (Int × Int × Int)) (place : Int) : Int := if mapOk rs = true ∧ 0 ≤ place ∧ place ≤ 15 then (pages rs).getD place.toNat 0 else -1
def mapped (rs : List (Int × Int × Int)) (place page : Int) : List (Int × Int × Int) × Bool :=
  if mapOk rs = true then (if (0 ≤ place ∧ place ≤ 15) ∧ -1 ≤ page ∧ page ≤ 23 then (mapOf ((pages rs).set place.toNat page), true) else (rs, false)) else ([], false)
def cutAt (l : List Int) (n : Int) : List Int := (List.range 16).map fun k : Nat => if (k : Int) < n then l.getD k 0 else -1
def belowM (rs : List (Int × Int × Int)) (size : Int) : List (Int × Int × Int) := if mapOk rs = true then mapOf (cutAt (pages rs) size) else []
def pagesOf (rs : List (Int × Int × Int)) : List Int := if mapOk rs = true then (pages rs).filter (fun p => decide (0 ≤ p)) else []

theorem getD_set16 (l : List Int) (k j : Nat) (x : Int) (h : k < l.length) : (l.set k x).getD j 0 = if k = j then x else l.getD j 0 := by
  rw [List.getD_eq_getElem?_getD, List.getElem?_set, List.getD_eq_getElem?_getD]
  by_cases e : k = j
  · subst e; simp [h]
  · simp [e]
theorem set_range (rs : List (Int × Int × Int)) (h : mapOk rs = true) (k : Nat) (hk : k < 16) (page : Int) (hp : -1 ≤ page ∧ page ≤ 23) : ∀ j, j < 16 → -1 ≤ ((pages rs).set k page).getD j 0 ∧ ((pages rs).set k page).getD j 0 ≤ 23 := fun j hj => by
  rw [getD_set16 _ _ _ _ (by rw [pages_length]; exact hk)]
  by_cases e : k = j
  · rw [if_pos e]; exact hp
  · rw [if_neg e]; exact pages_range rs h j hj

set_option maxHeartbeats 800000 in
theorem specPageOf_any (v : Value) (rs : List (Int × Int × Int)) (place : Int) (w : World) (r : ReadsR 3 runC w.heap.size w v rs) :
    Calls Try.prog 27 #[v, .int .i64 place] w fun e w' => e = .returned (.int .i64 (pageOf rs place)) ∧ Below w.heap.size w w' := by
  go_enter Try.func27, Try.ntmps27
  go_wp2_with fail
  refine (specMapOk_any v rs _ r).mono ?_
  rintro e w1 ⟨rfl, b1⟩
  have r1 := (r.below b1).mono b1.size
  cases hok : mapOk rs
  · have HV : Hid (pageOf rs place = -1) := by rw [Hid, pageOf, if_neg (fun q => by rw [hok] at q; cases q.1)]
    go_wp2_with fail
    go_ret
    exact ⟨ret_int HV.out.symm, b1⟩
  · have HOK : Hid (mapOk rs = true) := hok
    clear hok
    go_wp2_with fail
    refine (l1In_any place 0 15 _).mono ?_
    rintro e w2 ⟨rfl, rfl⟩
    cases hp : (decide ((0 : Int) ≤ place) && decide (place ≤ 15))
    · have HV : Hid (pageOf rs place = -1) := by
        rw [Hid, pageOf, if_neg]
        rintro ⟨_, h1, h2⟩
        simp [h1, h2] at hp
      go_wp2_with fail
      go_ret
      exact ⟨ret_int HV.out.symm, b1⟩
    · have hp2 : 0 ≤ place ∧ place ≤ 15 := by simpa using hp
      have hv : pageOf rs place = (pages rs).getD place.toNat 0 := by rw [pageOf, if_pos ⟨HOK.out, hp2⟩]
      obtain ⟨k, rfl⟩ := Int.eq_ofNat_of_zero_le hp2.1
      rw [Int.toNat_natCast] at hv
      have HV : Hid _ := hv
      clear hv
      go_wp2_with fail
      refine (l5Pages_any v rs _ HOK.out r1).mono ?_
      rintro e w3 ⟨g, cp, rfl, own, b3⟩
      have hpl := pages_length rs
      have c0 := own.cellAt k (by omega)
      rw [List.getElem?_map, List.getElem?_eq_getElem (show k < (pages rs).length by omega)] at c0
      have hgd : (pages rs).getD k 0 = (pages rs)[k] := by rw [List.getD_eq_getElem?_getD, List.getElem?_eq_getElem (show k < (pages rs).length by omega)]; rfl
      simp only [Option.map_some] at c0
      rw [← hgd] at c0
      clear hgd hpl own
      generalize (pages rs).getD k 0 = y at c0 HV
      have h0 : (0 : Int) ≤ (k : Int) := by omega
      have h1 : (k : Int) < 16 := by omega
      have bf := bw_call b1 b3
      go_wp2_with fail
      go_ret
      exact ⟨ret_int HV.out.symm, bf⟩

/-- A row of no runs, at the end of memory. -/
theorem own_none (w : World) : (w.alloc (.cells #[] 80)).ownsRow w.heap.size 80 3 (.slice (some ⟨w.heap.size, 0, none⟩) 0 0) 0 [] := World.ownsRow_lit w #[] 0 (Nat.le_refl _) (Nat.zero_le _) rfl

set_option maxHeartbeats 1600000 in
theorem specMapped_any (v : Value) (rs : List (Int × Int × Int)) (place page : Int) (w : World) (r : ReadsR 3 runC w.heap.size w v rs) :
    Calls Try.prog 22 #[v, .int .i64 place, .int .i64 page] w fun e w' => ∃ v' : Value, e = .returned (.tuple #[v', .bool (mapped rs place page).2]) ∧ w'.ownsRow w.heap.size 80 3 v' (mapped rs place page).1.length ((mapped rs place page).1.flatMap runC) ∧ v' ≠ .slice none 0 0 ∧ Below w.heap.size w w' := by
  obtain ⟨i0, hi, hz0, hz1, hz2⟩ := info_parts Try.infoRun
  go_enter Try.func22, Try.ntmps22
  go_wp2_with fail
  refine (specMapOk_any v rs _ r).mono ?_
  rintro e w1 ⟨rfl, b1⟩
  have r1 := (r.below b1).mono b1.size
  have bs := b1.size
  cases hok : mapOk rs
  · have HV : Hid (mapped rs place page = ([], false)) := by rw [Hid, mapped, if_neg (by rw [hok]; simp)]
    have HO : Hid ((w1.alloc (.cells #[] 80)).ownsRow w.heap.size 80 3 (.slice (some ⟨w1.heap.size, 0, none⟩) 0 0) 0 []) := owns_mono (own_none w1) bs
    have hb := bw_alloc (o := .cells #[] 80) b1
    clear r r1
    go_wp2_with fail
    go_ret2
    exact ⟨.slice (some ⟨w1.heap.size, 0, none⟩) 0 0, by rw [HV.out]; rfl, by rw [HV.out]; exact HO.out, by simp, hb⟩
  · have HOK : Hid (mapOk rs = true) := hok
    have hfew : rs.length ≤ 16 := by rw [mapOk, Bool.and_eq_true, decide_eq_true_iff] at hok; exact hok.2
    clear hok
    obtain ⟨o, cap, rfl, hm, hc, hroom⟩ := r1
    have rr : ReadsR 3 runC w1.heap.size w1 (.slice o rs.length cap) rs := ⟨o, cap, rfl, hm, hc, hroom⟩
    have HR : Hid _ := rr
    have HSRC : Hid (∀ j u, (rs.flatMap runC)[j]? = some u → ∃ g off, o = some ⟨g, off, none⟩ ∧ (w1.alloc (.cells #[] 80)).cell? ⟨g, off + j, none⟩ = some u) := fun j u hj => by
      have hjl := (List.getElem?_eq_some_iff.1 hj).1
      rw [flat_length runC_len] at hjl
      have hi3 : j / 3 < rs.length := by omega
      obtain ⟨g, off, e, hg, hx⟩ := hc (j / 3) rs[j / 3] (List.getElem?_eq_getElem hi3)
      refine ⟨g, off, e, (Below.cell (bw_alloc (Below.refl _ _)) (p := ⟨g, off + j, none⟩) hg).trans ?_⟩
      have hf := flat_get runC_len rs (j / 3) (j % 3) rs[j / 3] (List.getElem?_eq_getElem hi3) (by omega)
      rw [show j / 3 * 3 + j % 3 = j by omega] at hf
      have := hx (j % 3) u (by rw [← hf]; exact hj)
      rwa [show off + j / 3 * 3 + j % 3 = off + j by omega] at this
    have HONE : Hid (∀ u ∈ rs.flatMap runC, u.oneCell' = true) := fun u hu => by
      obtain ⟨x, _, hx⟩ := List.mem_flatMap.1 hu
      simp [runC] at hx
      rcases hx with rfl | rfl | rfl <;> rfl
    have HLEN : Hid ((rs.flatMap runC).length = rs.length * 3) := flat_length runC_len rs
    have hM : (0 + rs.length) ≤ maxLen := by unfold maxLen; omega
    have HM : Hid _ := hM
    have HB : Hid ((0 + rs.length) * 24 ≤ 140737488355328) := by rw [Hid]; omega
    have HS : Hid (w1.heap.size ≤ (w1.alloc (.cells #[] 80)).heap.size) := by rw [Hid]; simp
    have HON : Hid ((w1.alloc (.cells #[] 80)).ownsRow w1.heap.size 80 3 (.slice (some ⟨w1.heap.size, 0, none⟩) 0 0) 0 []) := own_none w1
    have asis : ∀ v' w3, w3.ownsRow w1.heap.size 80 3 v' (0 + rs.length) ([] ++ rs.flatMap runC) → (w1.alloc (.cells #[] 80)).grownBy w3 (Value.slice (some ⟨w1.heap.size, 0, none⟩) 0 0).ownBlock → Hid (w3.ownsRow w.heap.size 80 3 v' rs.length (rs.flatMap runC) ∧ Below w.heap.size w w3) := fun v' w3 h1 h2 => by
      refine ⟨owns_mono (by simpa using h1) bs, (bw_alloc b1).grown h2 (by simp; omega) (fun q hq => ?_)⟩
      simp [Value.ownBlock] at hq
      omega
    have HAS : Hid _ := asis
    clear asis hc hroom rr hM hm r
    have hlen16 : rs.length ≤ 16 := hfew
    go_wp2_with fail
    refine (l1In_any place 0 15 _).mono ?_
    rintro e w2 ⟨rfl, rfl⟩
    cases hp : (decide ((0 : Int) ≤ place) && decide (place ≤ 15))
    · have HV : Hid (mapped rs place page = (rs, false)) := by
        rw [Hid, mapped, if_pos HOK.out, if_neg]
        rintro ⟨⟨h1, h2⟩, _⟩
        simp [h1, h2] at hp
      go_wp2_with (at_builtin; refine wpList_append_reads rfl _ _ 34 rfl w2.heap.size 80 i0 (.agg #[.int .i64 0, .int .i64 0, .int .i64 0]) 3 24 Try.underlying34 hi hz0 hz1 hz2 rfl (by decide) (.slice (some ⟨w2.heap.size, 0, none⟩) 0 0) 0 [] rfl HON.out o rs.length cap (rs.flatMap runC) rfl HLEN.out HSRC.out HONE.out HM.out HB.out HS.out ?_)
      intro v' w3 hown hgrow hnil
      have HF := HAS.out v' w3 (by simpa using hown) hgrow
      have HNN : Hid (v' ≠ .slice none 0 0) := hnil
      clear hown hgrow hnil
      go_wp2_with fail
      go_ret2
      exact ⟨v', by rw [HV.out]; rfl, by rw [HV.out]; exact HF.out.1, HNN.out, HF.out.2⟩
    · have hp2 : 0 ≤ place ∧ place ≤ 15 := by simpa using hp
      go_wp2_with fail
      refine (l1In_any page (-1) 23 _).mono ?_
      rintro e w2 ⟨rfl, rfl⟩
      cases hg : (decide ((-1 : Int) ≤ page) && decide (page ≤ 23))
      · have HV : Hid (mapped rs place page = (rs, false)) := by
          rw [Hid, mapped, if_pos HOK.out, if_neg]
          rintro ⟨_, h1, h2⟩
          simp [h1, h2] at hg
        go_wp2_with (at_builtin; refine wpList_append_reads rfl _ _ 34 rfl w2.heap.size 80 i0 (.agg #[.int .i64 0, .int .i64 0, .int .i64 0]) 3 24 Try.underlying34 hi hz0 hz1 hz2 rfl (by decide) (.slice (some ⟨w2.heap.size, 0, none⟩) 0 0) 0 [] rfl HON.out o rs.length cap (rs.flatMap runC) rfl HLEN.out HSRC.out HONE.out HM.out HB.out HS.out ?_)
        intro v' w3 hown hgrow hnil
        have HF := HAS.out v' w3 (by simpa using hown) hgrow
        have HNN : Hid (v' ≠ .slice none 0 0) := hnil
        clear hown hgrow hnil
        go_wp2_with fail
        go_ret2
        exact ⟨v', by rw [HV.out]; rfl, by rw [HV.out]; exact HF.out.1, HNN.out, HF.out.2⟩
      · have hg2 : -1 ≤ page ∧ page ≤ 23 := by simpa using hg
        have hv : mapped rs place page = (mapOf ((pages rs).set place.toNat page), true) := by rw [mapped, if_pos HOK.out, if_pos ⟨hp2, hg2⟩]
        obtain ⟨k, rfl⟩ := Int.eq_ofNat_of_zero_le hp2.1
        rw [Int.toNat_natCast] at hv
        have HV : Hid _ := hv
        have hk : k < 16 := by omega
        have HRG : Hid _ := set_range rs HOK.out k hk page hg2
        have HL : Hid (((pages rs).set k page).length = 16) := by rw [Hid, List.length_set, pages_length]
        clear hv HAS HON HSRC HONE HLEN HM HB HS
        go_wp2_with fail
        refine (l5Pages_any _ rs _ HOK.out HR.out).mono ?_
        rintro e w3 ⟨g, cp, rfl, own, b3⟩
        have hpl := pages_length rs
        have c0 := own.cellAt k (by omega)
        have c1 := own.frozenAt k
        rw [List.getElem?_map, List.getElem?_eq_getElem (show k < (pages rs).length by omega)] at c0
        simp only [Option.map_some] at c0
        have hst := (own.stored k (.int .i64 page)).1
        rw [← List.map_set] at hst
        have hgl := (own.lt g rfl)
        have bset : Below w2.heap.size w2 (w3.setCell ⟨g, k, none⟩ (.int .i64 page)) := bw_set (p := ⟨g, k, none⟩) b3 hgl.1 _
        have rd := Reads.of_own hst
        have HRD : Hid _ := rd
        generalize (pages rs)[k] = y at c0
        clear own hst rd hpl hgl
        have h0 : (0 : Int) ≤ (k : Int) := by omega
        have h1 : (k : Int) < 16 := by omega
        go_wp2_with fail
        refine (l5Map_any _ ((pages rs).set k page) _ HL.out HRG.out HRD.out).mono ?_
        rintro e w5 ⟨v', rfl, own5, hnn, b5⟩
        have HO5 : Hid _ := own5
        have hb5 := bw_call (bw_call b1 bset) b5
        have hsz : w.heap.size ≤ (w3.setCell ⟨g, k, none⟩ (.int .i64 page)).heap.size := Nat.le_trans bs bset.size
        have HF : Hid (w5.ownsRow w.heap.size 80 3 v' (mapOf ((pages rs).set k page)).length ((mapOf ((pages rs).set k page)).flatMap runC)) := owns_mono own5 hsz
        clear own5 HO5 b5 bset b3
        go_wp2_with fail
        go_ret2
        exact ⟨v', by rw [HV.out]; rfl, by rw [HV.out]; exact HF.out, hnn, hb5⟩

end Go.Proofs.Ytehjahegokeofab
