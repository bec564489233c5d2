/-
  Chapter 5: the specification's PageOf, Mapped, Below, PagesOf, at every argument.
-/
import Derived.Test.YtombgdjklajanaiMap2
namespace Go.Proofs.Ytombgdjklajanai
open Go.RowKit
set_option linter.unusedVariables false

def pageOf (rs : List (Int × Int × Int)) (place : Int) : Int := if mapOk rs = true ∧ 0 ≤ place ∧ place ≤ 15 then (pages rs).getD place.toNat 0 else -1
def mapped (rs : List (Int × Int × Int)) (place page : Int) : List (Int × Int × Int) × Bool :=
  if mapOk rs = true then (if (0 ≤ place ∧ place ≤ 15) ∧ -1 ≤ page ∧ page ≤ 23 then (mapOf ((pages rs).set place.toNat page), true) else (rs, false)) else ([], false)
def cutAt (l : List Int) (n : Int) : List Int := (List.range 16).map fun k : Nat => if (k : Int) < n then l.getD k 0 else -1
def belowM (rs : List (Int × Int × Int)) (size : Int) : List (Int × Int × Int) := if mapOk rs = true then mapOf (cutAt (pages rs) size) else []
def pagesOf (rs : List (Int × Int × Int)) : List Int := if mapOk rs = true then (pages rs).filter (fun p => decide (0 ≤ p)) else []

theorem getD_set16 (l : List Int) (k j : Nat) (x : Int) (h : k < l.length) : (l.set k x).getD j 0 = if k = j then x else l.getD j 0 := by
  rw [List.getD_eq_getElem?_getD, List.getElem?_set, List.getD_eq_getElem?_getD]
  by_cases e : k = j
  · subst e; simp [h]
  · simp [e]
theorem set_range (rs : List (Int × Int × Int)) (h : mapOk rs = true) (k : Nat) (hk : k < 16) (page : Int) (hp : -1 ≤ page ∧ page ≤ 23) : ∀ j, j < 16 → -1 ≤ ((pages rs).set k page).getD j 0 ∧ ((pages rs).set k page).getD j 0 ≤ 23 := fun j hj => by
  rw [getD_set16 _ _ _ _ (by rw [pages_length]; exact hk)]
  by_cases e : k = j
  · rw [if_pos e]; exact hp
  · rw [if_neg e]; exact pages_range rs h j hj

set_option maxHeartbeats 800000 in
theorem specPageOf_any (v : Value) (rs : List (Int × Int × Int)) (place : Int) (w : World) (r : ReadsR 3 runC w.heap.size w v rs) :
    Calls Try.prog 27 #[v, .int .i64 place] w fun e w' => e = .returned (.int .i64 (pageOf rs place)) ∧ Below w.heap.size w w' := by
  go_enter Try.func27, Try.ntmps27
  go_wp2_with fail
  refine (specMapOk_any v rs _ r).mono ?_
  rintro e w1 ⟨rfl, b1⟩
  have r1 := (r.below b1).mono b1.size
  cases hok : mapOk rs
  · have HV : Hid (pageOf rs place = -1) := by rw [Hid, pageOf, if_neg (fun q => by rw [hok] at q; cases q.1)]
    go_wp2_with fail
    go_ret
    exact ⟨ret_int HV.out.symm, b1⟩
  · have HOK : Hid (mapOk rs = true) := hok
    clear hok
    go_wp2_with fail
    refine (l1In_any place 0 15 _).mono ?_
    rintro e w2 ⟨rfl, rfl⟩
    cases hp : (decide ((0 : Int) ≤ place) && decide (place ≤ 15))
    · have HV : Hid (pageOf rs place = -1) := by
        rw [Hid, pageOf, if_neg]
        rintro ⟨_, h1, h2⟩
        simp [h1, h2] at hp
      go_wp2_with fail
      go_ret
      exact ⟨ret_int HV.out.symm, b1⟩
    · have hp2 : 0 ≤ place ∧ place ≤ 15 := by simpa using hp
      have hv : pageOf rs place = (pages rs).getD place.toNat 0 := by rw [pageOf, if_pos ⟨HOK.out, hp2⟩]
      obtain ⟨k, rfl⟩ := Int.eq_ofNat_of_zero_le hp2.1
      rw [Int.toNat_natCast] at hv
      have HV : Hid _ := hv
      clear hv
      go_wp2_with fail
      refine (l5Pages_any v rs _ HOK.out r1).mono ?_
      rintro e w3 ⟨g, cp, rfl, own, b3⟩
      have hpl := pages_length rs
      have c0 := own.cellAt k (by omega)
      rw [List.getElem?_map, List.getElem?_eq_getElem (show k < (pages rs).length by omega)] at c0
      have hgd : (pages rs).getD k 0 = (pages rs)[k] := by rw [List.getD_eq_getElem?_getD, List.getElem?_eq_getElem (show k < (pages rs).length by omega)]; rfl
      simp only [Option.map_some] at c0
      rw [← hgd] at c0
      clear hgd hpl own
      generalize (pages rs).getD k 0 = y at c0 HV
      have h0 : (0 : Int) ≤ (k : Int) := by omega
      have h1 : (k : Int) < 16 := by omega
      have bf := bw_call b1 b3
      go_wp2_with fail
      go_ret
      exact ⟨ret_int HV.out.symm, bf⟩

/-- A row of no runs, at the end of memory. -/
theorem own_none (w : World) : (w.alloc (.cells #[] 61)).ownsRow w.heap.size 61 3 (.slice (some ⟨w.heap.size, 0, none⟩) 0 0) 0 [] := World.ownsRow_lit w #[] 0 (Nat.le_refl _) (Nat.zero_le _) rfl

end Go.Proofs.Ytombgdjklajanai
