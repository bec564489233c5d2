/-
  Chapter 5: the program's PageOf, Mapped, Below, PagesOf, at every argument.
-/
import Derived.Test.YtombgdjklajanaiImMap5
namespace Go.Proofs.Ytombgdjklajanai
open Go.RowKit
set_option linter.unusedVariables false

/-- The page of a place, out of an array by value. -/
theorem arr_at (L : List Int) (c : Array Value) (h : c.toList = L.map (Value.int .i64)) (k : Nat) (hk : k < L.length) : c[k]? = some (.int .i64 (L.getD k 0)) := by
  rw [← Array.getElem?_toList, h, List.getElem?_map, List.getElem?_eq_getElem hk, List.getD_eq_getElem?_getD, List.getElem?_eq_getElem hk]
  rfl
theorem arr_size (L : List Int) (c : Array Value) (h : c.toList = L.map (Value.int .i64)) : c.size = L.length := by rw [← Array.length_toList, h, List.length_map]

theorem index16 (c : Array Value) (k : Nat) (y : Int) (hk : k < 16) (hck : c[k]? = some (.int .i64 y)) (w : World) : (Instr.index 68 (.agg c) (.int .i64 (k : Int))).run Try.prog w = .ok (.int .i64 y) w := by
  simp [Instr.index, part, go_sem, hck]
  intro h
  exact absurd hk (by omega)

set_option maxHeartbeats 800000 in
theorem implPageOf_any (v : Value) (rs : List (Int × Int × Int)) (place : Int) (w : World) (hfit : FitRuns rs) (r : ReadsR 3 runC w.heap.size w v rs) :
    Calls Try.prog 28 #[v, .int .i64 place] w fun e w' => e = .returned (.int .i64 (pageOf rs place)) ∧ Below w.heap.size w w' := by
  go_enter Try.func28, Try.ntmps28
  go_wp2_with fail
  refine (implMapOk_any v rs _ hfit r).mono ?_
  rintro e w1 ⟨rfl, b1⟩
  have r1 := (r.below b1).mono b1.size
  cases hok : mapOk rs
  · have HV : Hid (pageOf rs place = -1) := by rw [Hid, pageOf, if_neg (fun q => by rw [hok] at q; cases q.1)]
    go_wp2_with fail
    go_ret
    exact ⟨ret_int HV.out.symm, b1⟩
  · have HOK : Hid (mapOk rs = true) := hok
    clear hok
    go_wp2_with fail
    refine (placeOk_any place _).mono ?_
    rintro e w2 ⟨rfl, rfl⟩
    cases hp : (decide ((0 : Int) ≤ place) && decide (place ≤ 15))
    · have HV : Hid (pageOf rs place = -1) := by
        rw [Hid, pageOf, if_neg]
        rintro ⟨_, h1, h2⟩
        simp [h1, h2] at hp
      go_wp2_with fail
      go_ret
      exact ⟨ret_int HV.out.symm, b1⟩
    · have hp2 : 0 ≤ place ∧ place ≤ 15 := by simpa using hp
      have hv : pageOf rs place = (pages rs).getD place.toNat 0 := by rw [pageOf, if_pos ⟨HOK.out, hp2⟩]
      obtain ⟨k, rfl⟩ := Int.eq_ofNat_of_zero_le hp2.1
      rw [Int.toNat_natCast] at hv
      have HV : Hid _ := hv
      clear hv
      go_wp2_with fail
      refine (pageByPlace_any v rs _ HOK.out r1).mono ?_
      rintro e w3 ⟨c, rfl, hcl, b3⟩
      have hpl := pages_length rs
      have hck := arr_at (pages rs) c hcl k (by omega)
      have hcs := arr_size (pages rs) c hcl
      rw [hpl] at hcs
      have hix := fun w => index16 c k _ (by omega) hck w
      clear hcl hpl hck
      generalize (pages rs).getD k 0 = y at hix HV
      have h0 : (0 : Int) ≤ (k : Int) := by omega
      have h1 : (k : Int) < 16 := by omega
      have bf := bw_call b1 b3
      go_wp2_with fail
      go_ret
      exact ⟨ret_int HV.out.symm, bf⟩

/-- An array by value that lies in a variable of its own. -/
theorem own_arr (w : World) (c : Array Value) (L : List Int) (hc : c.toList = L.map (Value.int .i64)) (hl : L.length = 16) : (w.alloc (.cells c 68)).ownsRow w.heap.size 68 1 (.slice (some ⟨w.heap.size, 0, none⟩) 16 16) 16 (L.map (Value.int .i64)) := by
  have h := World.ownsRow_lit (e := 68) (size := 1) (base := w.heap.size) w c 16 (Nat.le_refl _) (by unfold maxLen; omega) (by rw [arr_size L c hc, hl])
  rwa [hc] at h

end Go.Proofs.Ytombgdjklajanai
