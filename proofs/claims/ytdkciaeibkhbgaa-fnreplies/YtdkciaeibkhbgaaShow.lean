/-
  The contracts of both ShowNumber: the bytes of the number, the highest first, where it goes in; else the empty text.
-/
import Derived.Test.YtdkciaeibkhbgaaRead
import Derived.Handy
import Derived.Laws.IdiomStrings
namespace Go.Proofs.Ytdkciaeibkhbgaa
open Go.RowKit
set_option linter.unusedVariables false
set_option maxRecDepth 100000

theorem foldl_push : ∀ (l : List Int) (r : ByteArray), l.foldl (fun r n => r.push (UInt8.ofNat n.toNat)) r = ⟨r.data ++ (l.map fun n => UInt8.ofNat n.toNat).toArray⟩
  | [], r => by simp
  | b :: l, r => by
    simp only [List.map_cons, List.foldl_cons]
    rw [foldl_push l]
    simp [ByteArray.push]

theorem conv_cells (w : World) (a : Addr) (cap : Nat) (ns : List Int) (hc : ∀ j v, ns[j]? = some v → w.cell? (a.add j) = some (.int .u8 v)) :
    (convert 22 9 (.slice (some a) ns.length cap)).run Try.prog w = .ok (.string ⟨(ns.map fun n => UInt8.ofNat n.toNat).toArray⟩) w := by
  rw [run_convert_bytes_string w _ _ 5 (some a) ns.length cap Try.underlying22 Try.underlying5 Try.underlying9]
  have hl := run_loadCells_list (P := Try.prog) w a (ns.map (Value.int .u8)) (fun j v hj => by
    rw [List.getElem?_map, Option.map_eq_some_iff] at hj
    obtain ⟨x, hx, rfl⟩ := hj
    exact hc j x hx)
  rw [List.length_map] at hl
  rw [run_bytesToString w a ns.length cap _ hl, foldl_push]
  have he0 : ByteArray.empty.data = #[] := rfl
  rw [he0]
  simp

theorem conv_new (w : World) (ns : List Int) (more : List Value) (cap : Nat) :
    (convert 22 9 (.slice (some ⟨w.heap.size, 0, none⟩) ns.length cap)).run Try.prog (w.alloc (.cells (ns.map (Value.int .u8) ++ more).toArray 5)) = .ok (.string ⟨(ns.map fun n => UInt8.ofNat n.toNat).toArray⟩) (w.alloc (.cells (ns.map (Value.int .u8) ++ more).toArray 5)) := by
  apply conv_cells
  intro j v hj
  have hj' := (List.getElem?_eq_some_iff.1 hj).1
  have := World.cell?_alloc_mark w (ns.map (Value.int .u8) ++ more).toArray 5 (0, 0) j
  have ha : (⟨w.heap.size, 0, none⟩ : Addr).add j = ⟨w.heap.size, j, none⟩ := by unfold Addr.add; split <;> simp_all
  rw [ha, this]
  have e : ns[j] = v := by rw [List.getElem?_eq_getElem hj'] at hj; exact Option.some.inj hj
  simp [List.getElem?_append, hj', e]

theorem conv_later (w W : World) (ns : List Int) (more : List Value) (cap : Nat) (hb : Below (w.heap.size + 1) (w.alloc (.cells (ns.map (Value.int .u8) ++ more).toArray 5)) W) :
    (convert 22 9 (.slice (some ⟨w.heap.size, 0, none⟩) ns.length cap)).run Try.prog W = .ok (.string ⟨(ns.map fun n => UInt8.ofNat n.toNat).toArray⟩) W := by
  apply conv_cells
  intro j v hj
  have hj' := (List.getElem?_eq_some_iff.1 hj).1
  have := World.cell?_alloc_mark w (ns.map (Value.int .u8) ++ more).toArray 5 (0, 0) j
  have ha : (⟨w.heap.size, 0, none⟩ : Addr).add j = ⟨w.heap.size, j, none⟩ := by unfold Addr.add; split <;> simp_all
  rw [ha, hb.cell (p := ⟨w.heap.size, j, none⟩) (Nat.lt_succ_self _), this]
  have e : ns[j] = v := by rw [List.getElem?_eq_getElem hj'] at hj; exact Option.some.inj hj
  simp [List.getElem?_append, hj', e]

theorem specShow1 (n : Int) (w : World) (h0 : 0 ≤ n) (h1 : n < 256) :
    Calls Try.prog 42 #[.int .i64 n, .int .i64 1] w fun e w' => e = .returned (.string ⟨(Nums.showI n 1).toArray⟩) ∧ Below w.heap.size w w' := by
  have hmk : ∀ w : World, (Instr.makeSlice 22 (.int .i64 1) (.int .i64 1)).run Try.prog w = .ok (.slice (some ⟨w.heap.size, 0, none⟩) 1 1) (w.alloc (.cells #[.int .u8 0] 5)) := fun _ => by kernel_rfl
  have hcv : ∀ (w : World) (a : Int), (convert 22 9 (.slice (some ⟨w.heap.size, 0, none⟩) 1 1)).run Try.prog (w.alloc (.cells #[.int .u8 a] 5)) = .ok (.string ⟨#[UInt8.ofNat a.toNat]⟩) (w.alloc (.cells #[.int .u8 a] 5)) := fun w a => conv_new w [a] [] 1
  have hx : ∀ n, bits .and .i64 n 255 = n % 256 := and255
  go_enter Try.func42, Try.ntmps42
  go_wp2_with (go_at_call 44; refine (l1In_any _ _ _ _).mono ?_; rintro e w' ⟨rfl, rfl⟩)
  go_rounds 2
  go_ret
  exact ⟨rfl, by go_grown⟩

theorem specShow2 (n : Int) (w : World) (h0 : 0 ≤ n) (h1 : n < 65536) :
    Calls Try.prog 42 #[.int .i64 n, .int .i64 2] w fun e w' => e = .returned (.string ⟨(Nums.showI n 2).toArray⟩) ∧ Below w.heap.size w w' := by
  have hmk : ∀ w : World, (Instr.makeSlice 22 (.int .i64 2) (.int .i64 2)).run Try.prog w = .ok (.slice (some ⟨w.heap.size, 0, none⟩) 2 2) (w.alloc (.cells #[.int .u8 0, .int .u8 0] 5)) := fun _ => by kernel_rfl
  have hcv : ∀ (w : World) (a b : Int), (convert 22 9 (.slice (some ⟨w.heap.size, 0, none⟩) 2 2)).run Try.prog (w.alloc (.cells #[.int .u8 a, .int .u8 b] 5)) = .ok (.string ⟨#[UInt8.ofNat a.toNat, UInt8.ofNat b.toNat]⟩) (w.alloc (.cells #[.int .u8 a, .int .u8 b] 5)) := fun w a b => conv_new w [a, b] [] 2
  have hx : ∀ n, bits .and .i64 n 255 = n % 256 := and255
  go_enter Try.func42, Try.ntmps42
  go_wp2_with (go_at_call 44; refine (l1In_any _ _ _ _).mono ?_; rintro e w' ⟨rfl, rfl⟩)
  go_rounds 3
  go_ret
  exact ⟨rfl, by go_grown⟩

theorem specShow3 (n : Int) (w : World) (h0 : 0 ≤ n) (h1 : n < 16777216) :
    Calls Try.prog 42 #[.int .i64 n, .int .i64 3] w fun e w' => e = .returned (.string ⟨(Nums.showI n 3).toArray⟩) ∧ Below w.heap.size w w' := by
  have hmk : ∀ w : World, (Instr.makeSlice 22 (.int .i64 3) (.int .i64 3)).run Try.prog w = .ok (.slice (some ⟨w.heap.size, 0, none⟩) 3 3) (w.alloc (.cells #[.int .u8 0, .int .u8 0, .int .u8 0] 5)) := fun _ => by kernel_rfl
  have hcv : ∀ (w : World) (a b c : Int), (convert 22 9 (.slice (some ⟨w.heap.size, 0, none⟩) 3 3)).run Try.prog (w.alloc (.cells #[.int .u8 a, .int .u8 b, .int .u8 c] 5)) = .ok (.string ⟨#[UInt8.ofNat a.toNat, UInt8.ofNat b.toNat, UInt8.ofNat c.toNat]⟩) (w.alloc (.cells #[.int .u8 a, .int .u8 b, .int .u8 c] 5)) := fun w a b c => conv_new w [a, b, c] [] 3
  have hx : ∀ n, bits .and .i64 n 255 = n % 256 := and255
  go_enter Try.func42, Try.ntmps42
  go_wp2_with (go_at_call 44; refine (l1In_any _ _ _ _).mono ?_; rintro e w' ⟨rfl, rfl⟩)
  go_rounds 4
  go_ret
  exact ⟨rfl, by go_grown⟩

theorem specShow4 (n : Int) (w : World) (h0 : 0 ≤ n) (h1 : n < 4294967296) :
    Calls Try.prog 42 #[.int .i64 n, .int .i64 4] w fun e w' => e = .returned (.string ⟨(Nums.showI n 4).toArray⟩) ∧ Below w.heap.size w w' := by
  have hmk : ∀ w : World, (Instr.makeSlice 22 (.int .i64 4) (.int .i64 4)).run Try.prog w = .ok (.slice (some ⟨w.heap.size, 0, none⟩) 4 4) (w.alloc (.cells #[.int .u8 0, .int .u8 0, .int .u8 0, .int .u8 0] 5)) := fun _ => by kernel_rfl
  have hcv : ∀ (w : World) (a b c d : Int), (convert 22 9 (.slice (some ⟨w.heap.size, 0, none⟩) 4 4)).run Try.prog (w.alloc (.cells #[.int .u8 a, .int .u8 b, .int .u8 c, .int .u8 d] 5)) = .ok (.string ⟨#[UInt8.ofNat a.toNat, UInt8.ofNat b.toNat, UInt8.ofNat c.toNat, UInt8.ofNat d.toNat]⟩) (w.alloc (.cells #[.int .u8 a, .int .u8 b, .int .u8 c, .int .u8 d] 5)) := fun w a b c d => conv_new w [a, b, c, d] [] 4
  have hx : ∀ n, bits .and .i64 n 255 = n % 256 := and255
  go_enter Try.func42, Try.ntmps42
  go_wp2_with (go_at_call 44; refine (l1In_any _ _ _ _).mono ?_; rintro e w' ⟨rfl, rfl⟩)
  go_rounds 5
  go_ret
  exact ⟨rfl, by go_grown⟩

theorem byteAt_any (n p : Int) (w : World) (h0 : 0 ≤ n) (h1 : n < 4294967296) (hp : p = 0 ∨ p = 1 ∨ p = 2 ∨ p = 3) :
    Calls Try.prog 71 #[.int .i64 n, .int .i64 p] w fun e w' => e = .returned (.int .u8 (Nums.placeI n p.toNat)) ∧ w' = w := by
  rcases hp with rfl | rfl | rfl | rfl
  all_goals
    go_enter Try.func71, Try.ntmps71
    go_wp2
    go_ret
    exact ⟨ret_int (by simp [Nums.placeI]; try omega), rfl⟩

theorem fits_any (n k : Int) (w : World) (hn : -9223372036854775808 ≤ n ∧ n ≤ 9223372036854775807) (hk : k = 1 ∨ k = 2 ∨ k = 3 ∨ k = 4) :
    Calls Try.prog 70 #[.int .i64 n, .int .i64 k] w fun e w' => e = .returned (.bool (Nums.fitsB n k)) ∧ w' = w := by
  by_cases h : 0 ≤ n
  · rcases hk with rfl | rfl | rfl | rfl
    all_goals
      go_enter Try.func70, Try.ntmps70
      go_wp2
      go_ret
      exact ⟨ret_bool (by rw [Bool.eq_iff_iff]; simp [Nums.fitsB, h]; omega), rfl⟩
  · go_enter Try.func70, Try.ntmps70
    go_wp2
    go_ret
    exact ⟨ret_bool (by simp [Nums.fitsB]; omega), rfl⟩

theorem implShow1 (n : Int) (w : World) (h0 : 0 ≤ n) (h1 : n < 256) :
    Calls Try.prog 36 #[.int .i64 n, .int .i64 1] w fun e w' => e = .returned (.string ⟨(Nums.showI n 1).toArray⟩) ∧ Below w.heap.size w w' := by
  have hmk : ∀ w : World, (Instr.makeSlice 22 (.int .i64 0) (.int .i64 4)).run Try.prog w = .ok (.slice (some ⟨w.heap.size, 0, none⟩) 0 4) (w.alloc (.cells #[.int .u8 0, .int .u8 0, .int .u8 0, .int .u8 0] 5)) := fun _ => by kernel_rfl
  have hcv : ∀ (w : World) (a : Int) (o0 : Obj), (convert 22 9 (.slice (some ⟨w.heap.size, 0, none⟩) 1 4)).run Try.prog ((w.alloc (.cells #[.int .u8 a, .int .u8 0, .int .u8 0, .int .u8 0] 5)).alloc o0) = .ok (.string ⟨#[UInt8.ofNat a.toNat]⟩) ((w.alloc (.cells #[.int .u8 a, .int .u8 0, .int .u8 0, .int .u8 0] 5)).alloc o0) := fun w a o0 => conv_later w _ [a] [.int .u8 0, .int .u8 0, .int .u8 0] 4 ((Below.refl _ _).alloc (by simp) _)
  have hf : Nums.fitsB n 1 = true := by simp [Nums.fitsB]; omega
  have hw1 : (decide ((1 : Int) ≤ 1) && decide ((1 : Int) ≤ 4)) = true := by decide
  go_enter Try.func36, Try.ntmps36
  go_wp2_with (first | (go_at_call 69; refine (widthOk_any _ _).mono ?_; rintro e w' ⟨rfl, rfl⟩) | (go_at_call 70; refine (fits_any _ _ _ (by omega) (by omega)).mono ?_; rintro e w' ⟨rfl, rfl⟩))
  refine wp_loop_rounds 2 ?_
  repeat any_goals (rw [rounds_succ]; go_wp2_with (go_at_call 71; refine (byteAt_any _ _ _ (by omega) (by omega) (by omega)).mono ?_; rintro e w' ⟨rfl, rfl⟩))
  go_ret
  exact ⟨rfl, by go_grown⟩

theorem implShow2 (n : Int) (w : World) (h0 : 0 ≤ n) (h1 : n < 65536) :
    Calls Try.prog 36 #[.int .i64 n, .int .i64 2] w fun e w' => e = .returned (.string ⟨(Nums.showI n 2).toArray⟩) ∧ Below w.heap.size w w' := by
  have hmk : ∀ w : World, (Instr.makeSlice 22 (.int .i64 0) (.int .i64 4)).run Try.prog w = .ok (.slice (some ⟨w.heap.size, 0, none⟩) 0 4) (w.alloc (.cells #[.int .u8 0, .int .u8 0, .int .u8 0, .int .u8 0] 5)) := fun _ => by kernel_rfl
  have hcv : ∀ (w : World) (a b : Int) (o0 o1 : Obj), (convert 22 9 (.slice (some ⟨w.heap.size, 0, none⟩) 2 4)).run Try.prog (((w.alloc (.cells #[.int .u8 a, .int .u8 b, .int .u8 0, .int .u8 0] 5)).alloc o0).alloc o1) = .ok (.string ⟨#[UInt8.ofNat a.toNat, UInt8.ofNat b.toNat]⟩) (((w.alloc (.cells #[.int .u8 a, .int .u8 b, .int .u8 0, .int .u8 0] 5)).alloc o0).alloc o1) := fun w a b o0 o1 => conv_later w _ [a, b] [.int .u8 0, .int .u8 0] 4 (((Below.refl _ _).alloc (by simp) _).alloc (by simp) _)
  have hf : Nums.fitsB n 2 = true := by simp [Nums.fitsB]; omega
  have hw1 : (decide ((1 : Int) ≤ 2) && decide ((2 : Int) ≤ 4)) = true := by decide
  go_enter Try.func36, Try.ntmps36
  go_wp2_with (first | (go_at_call 69; refine (widthOk_any _ _).mono ?_; rintro e w' ⟨rfl, rfl⟩) | (go_at_call 70; refine (fits_any _ _ _ (by omega) (by omega)).mono ?_; rintro e w' ⟨rfl, rfl⟩))
  refine wp_loop_rounds 3 ?_
  repeat any_goals (rw [rounds_succ]; go_wp2_with (go_at_call 71; refine (byteAt_any _ _ _ (by omega) (by omega) (by omega)).mono ?_; rintro e w' ⟨rfl, rfl⟩))
  go_ret
  exact ⟨rfl, by go_grown⟩

theorem implShow3 (n : Int) (w : World) (h0 : 0 ≤ n) (h1 : n < 16777216) :
    Calls Try.prog 36 #[.int .i64 n, .int .i64 3] w fun e w' => e = .returned (.string ⟨(Nums.showI n 3).toArray⟩) ∧ Below w.heap.size w w' := by
  have hmk : ∀ w : World, (Instr.makeSlice 22 (.int .i64 0) (.int .i64 4)).run Try.prog w = .ok (.slice (some ⟨w.heap.size, 0, none⟩) 0 4) (w.alloc (.cells #[.int .u8 0, .int .u8 0, .int .u8 0, .int .u8 0] 5)) := fun _ => by kernel_rfl
  have hcv : ∀ (w : World) (a b c : Int) (o0 o1 o2 : Obj), (convert 22 9 (.slice (some ⟨w.heap.size, 0, none⟩) 3 4)).run Try.prog ((((w.alloc (.cells #[.int .u8 a, .int .u8 b, .int .u8 c, .int .u8 0] 5)).alloc o0).alloc o1).alloc o2) = .ok (.string ⟨#[UInt8.ofNat a.toNat, UInt8.ofNat b.toNat, UInt8.ofNat c.toNat]⟩) ((((w.alloc (.cells #[.int .u8 a, .int .u8 b, .int .u8 c, .int .u8 0] 5)).alloc o0).alloc o1).alloc o2) := fun w a b c o0 o1 o2 => conv_later w _ [a, b, c] [.int .u8 0] 4 ((((Below.refl _ _).alloc (by simp) _).alloc (by simp) _).alloc (by simp) _)
  have hf : Nums.fitsB n 3 = true := by simp [Nums.fitsB]; omega
  have hw1 : (decide ((1 : Int) ≤ 3) && decide ((3 : Int) ≤ 4)) = true := by decide
  go_enter Try.func36, Try.ntmps36
  go_wp2_with (first | (go_at_call 69; refine (widthOk_any _ _).mono ?_; rintro e w' ⟨rfl, rfl⟩) | (go_at_call 70; refine (fits_any _ _ _ (by omega) (by omega)).mono ?_; rintro e w' ⟨rfl, rfl⟩))
  refine wp_loop_rounds 4 ?_
  repeat any_goals (rw [rounds_succ]; go_wp2_with (go_at_call 71; refine (byteAt_any _ _ _ (by omega) (by omega) (by omega)).mono ?_; rintro e w' ⟨rfl, rfl⟩))
  go_ret
  exact ⟨rfl, by go_grown⟩

theorem implShow4 (n : Int) (w : World) (h0 : 0 ≤ n) (h1 : n < 4294967296) :
    Calls Try.prog 36 #[.int .i64 n, .int .i64 4] w fun e w' => e = .returned (.string ⟨(Nums.showI n 4).toArray⟩) ∧ Below w.heap.size w w' := by
  have hmk : ∀ w : World, (Instr.makeSlice 22 (.int .i64 0) (.int .i64 4)).run Try.prog w = .ok (.slice (some ⟨w.heap.size, 0, none⟩) 0 4) (w.alloc (.cells #[.int .u8 0, .int .u8 0, .int .u8 0, .int .u8 0] 5)) := fun _ => by kernel_rfl
  have hcv : ∀ (w : World) (a b c d : Int) (o0 o1 o2 o3 : Obj), (convert 22 9 (.slice (some ⟨w.heap.size, 0, none⟩) 4 4)).run Try.prog (((((w.alloc (.cells #[.int .u8 a, .int .u8 b, .int .u8 c, .int .u8 d] 5)).alloc o0).alloc o1).alloc o2).alloc o3) = .ok (.string ⟨#[UInt8.ofNat a.toNat, UInt8.ofNat b.toNat, UInt8.ofNat c.toNat, UInt8.ofNat d.toNat]⟩) (((((w.alloc (.cells #[.int .u8 a, .int .u8 b, .int .u8 c, .int .u8 d] 5)).alloc o0).alloc o1).alloc o2).alloc o3) := fun w a b c d o0 o1 o2 o3 => conv_later w _ [a, b, c, d] [] 4 (((((Below.refl _ _).alloc (by simp) _).alloc (by simp) _).alloc (by simp) _).alloc (by simp) _)
  have hf : Nums.fitsB n 4 = true := by simp [Nums.fitsB]; omega
  have hw1 : (decide ((1 : Int) ≤ 4) && decide ((4 : Int) ≤ 4)) = true := by decide
  go_enter Try.func36, Try.ntmps36
  go_wp2_with (first | (go_at_call 69; refine (widthOk_any _ _).mono ?_; rintro e w' ⟨rfl, rfl⟩) | (go_at_call 70; refine (fits_any _ _ _ (by omega) (by omega)).mono ?_; rintro e w' ⟨rfl, rfl⟩))
  refine wp_loop_rounds 5 ?_
  repeat any_goals (rw [rounds_succ]; go_wp2_with (go_at_call 71; refine (byteAt_any _ _ _ (by omega) (by omega) (by omega)).mono ?_; rintro e w' ⟨rfl, rfl⟩))
  go_ret
  exact ⟨rfl, by go_grown⟩

theorem specShow_no (n k : Int) (w : World) (hn : -9223372036854775808 ≤ n ∧ n ≤ 9223372036854775807) (h : ¬ (1 ≤ k ∧ k ≤ 4 ∧ 0 ≤ n ∧ n < 256 ^ k.toNat)) :
    Calls Try.prog 42 #[.int .i64 n, .int .i64 k] w fun e w' => e = .returned (.string ByteArray.empty) ∧ w' = w := by
  by_cases h1 : 1 ≤ k ∧ k ≤ 4
  · by_cases h2 : 0 ≤ n
    · have hk : k = 1 ∨ k = 2 ∨ k = 3 ∨ k = 4 := by omega
      rcases hk with rfl | rfl | rfl | rfl
      all_goals
        have h3 := fun x => h ⟨by omega, by omega, h2, x⟩
        simp at h3
        clear h h1
        go_enter Try.func42, Try.ntmps42
        go_wp2_with (go_at_call 44; refine (l1In_any _ _ _ _).mono ?_; rintro e w' ⟨rfl, rfl⟩)
        go_ret
        exact ⟨rfl, rfl⟩
    · have h1' : (decide (1 ≤ k) && decide (k ≤ 4)) = true := by simp; omega
      clear h h1
      go_enter Try.func42, Try.ntmps42
      go_wp2_with (go_at_call 44; refine (l1In_any _ _ _ _).mono ?_; rintro e w' ⟨rfl, rfl⟩)
      go_ret
      exact ⟨rfl, rfl⟩
  · have h1' : (decide (1 ≤ k) && decide (k ≤ 4)) = false := by simp; omega
    clear h h1
    go_enter Try.func42, Try.ntmps42
    go_wp2_with (go_at_call 44; refine (l1In_any _ _ _ _).mono ?_; rintro e w' ⟨rfl, rfl⟩)
    go_ret
    exact ⟨rfl, rfl⟩

theorem implShow_no (n k : Int) (w : World) (hn : -9223372036854775808 ≤ n ∧ n ≤ 9223372036854775807) (h : ¬ (1 ≤ k ∧ k ≤ 4 ∧ 0 ≤ n ∧ n < 256 ^ k.toNat)) :
    Calls Try.prog 36 #[.int .i64 n, .int .i64 k] w fun e w' => e = .returned (.string ByteArray.empty) ∧ w' = w := by
  by_cases h1 : 1 ≤ k ∧ k ≤ 4
  · have h1' : (decide (1 ≤ k) && decide (k ≤ 4)) = true := by simp; omega
    have hk : k = 1 ∨ k = 2 ∨ k = 3 ∨ k = 4 := by omega
    have hf : Nums.fitsB n k = false := by
      simp only [Nums.fitsB, Bool.and_eq_false_iff, decide_eq_false_iff_not]
      by_cases h2 : 0 ≤ n
      · exact .inr fun x => h ⟨h1.1, h1.2, h2, x⟩
      · exact .inl h2
    have HK : Hid (k = 1 ∨ k = 2 ∨ k = 3 ∨ k = 4) := hk
    clear h h1 hk
    go_enter Try.func36, Try.ntmps36
    go_wp2_with (first | (go_at_call 69; refine (widthOk_any _ _).mono ?_; rintro e w' ⟨rfl, rfl⟩) | (go_at_call 70; refine (fits_any _ _ _ (by omega) HK.out).mono ?_; rintro e w' ⟨rfl, rfl⟩))
    go_ret
    exact ⟨rfl, rfl⟩
  · have h1' : (decide (1 ≤ k) && decide (k ≤ 4)) = false := by simp; omega
    clear h h1
    go_enter Try.func36, Try.ntmps36
    go_wp2_with (go_at_call 69; refine (widthOk_any _ _).mono ?_; rintro e w' ⟨rfl, rfl⟩)
    go_ret
    exact ⟨rfl, rfl⟩

end Go.Proofs.Ytdkciaeibkhbgaa
