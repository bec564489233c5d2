/-
  The law FnNumbers answers true at every input that the row speaks of, and its arguments read afterwards as before; the walk goes over the callees' contracts.
-/
import Derived.Test.YtjhnobplimnibaaRows
import Derived.WalkKit
import Derived.Test.YtjhnobplimnibaaDrawNum
import Derived.Test.YtjhnobplimnibaaChap1
import Derived.ProofKit
import Derived.OpenShut
import Derived.ShutString
import Derived.ChangeOld
import Derived.Below
namespace Go.Proofs.Ytjhnobplimnibaa.fnNumbers
open Go.ChangeShapes Go.WideShapes Go.ChangeAt Go.RowKit
open Go.ChangeMaps (open_string shut_string)
set_option linter.unusedVariables false

theorem own : ownKnob Try.prog.godebug = none := by kernel_rfl
theorem laidOut : laidOutB Try.prog = true := by kernel_rfl

def IsRow (k : IntKind) (w : World) (a : Option Addr) (len cap : Nat) (zs : List Int) : Prop :=
  (a = none ∧ len = 0 ∧ cap = 0 ∧ zs = []) ∨
  ∃ x, a = some x ∧ len ≤ cap ∧ cap ≤ maxLen ∧ zs.length = cap ∧ (∀ i, i < zs.length → w.cell? (x.add i) = some (.int k (zs.getD i 0))) ∧ ∀ n ∈ zs, (Lit.int k n).wf = true

set_option maxHeartbeats 4000000 in
theorem walk (a0 : Option Addr) (len0 cap0 : Nat) (z0 : List Int) (w : World) (w0 : IsRow .u8 w a0 len0 cap0 z0) :
    Calls Try.prog 3 #[.slice a0 len0 cap0] w fun e w' => e = .returned (.bool true) ∧ Below w.heap.size w w' := by
  have hs : Src w w.heap.size a0 len0 := src_of w0
  have hm := hs.1
  by_cases hbig : (4096 : Int) < (len0 : Int)
  · have hd : decide ((4096 : Int) < (len0 : Int)) = true := by simpa using hbig
    go_enter Try.func3, Try.ntmps3
    go_wp2_with (go_at_call 4; refine (big_any _ _ _ _ hm).mono ?_; rintro e w' ⟨rfl, rfl⟩)
    go_ret
    exact ⟨rfl, Below.refl _ _⟩
  · have hd : decide ((4096 : Int) < (len0 : Int)) = false := by simpa using hbig
    clear w0
    go_enter Try.func3, Try.ntmps3
    go_wp2_with fail
    refine (big_any _ _ _ _ hm).mono ?_
    rintro e w' ⟨rfl, rfl⟩
    go_wp2_with fail
    refine (drawShow_any _ _ _ _ hs).mono ?_
    rintro e w1 ⟨n, width, rfl, hnk, b1⟩
    go_wp2_with fail
    refine (implShow_any _ _ _ (by omega)).mono ?_
    rintro e w2 ⟨rfl, c2⟩
    have b2 := b1.trans (c2.mono b1.size)
    clear c2
    go_wp2_with fail
    refine (drawRead_any _ _ _ _ ((hs.below b2).mono b2.size)).mono ?_
    rintro e w3 ⟨t, at_, k, rfl, htk, c3⟩
    have b3 := b2.trans (c3.mono b2.size)
    clear c3
    go_wp2_with fail
    refine (implRead_any _ _ _ _ (by unfold maxLen; omega) (by omega)).mono ?_
    rintro e w4 ⟨rfl, rfl⟩
    go_wp2_with fail
    refine (drawSum_any _ _ _ _ ((hs.below b3).mono b3.size)).mono ?_
    rintro e w5 ⟨u, rfl, hu, c5⟩
    have b5 := b3.trans (c5.mono b3.size)
    clear c5
    go_wp2_with fail
    refine (drawName_any _ _ _ _ ((hs.below b5).mono b5.size)).mono ?_
    rintro e w6 ⟨a, rfl, ha, c6⟩
    have b6 := b5.trans (c6.mono b5.size)
    clear c6
    go_wp2_with fail
    refine (specRead_any _ _ _ _ (by unfold maxLen; omega) (by omega)).mono ?_
    rintro e w7 ⟨rfl, rfl⟩
    go_wp2_with fail
    refine (specShow_any _ _ _ (by omega)).mono ?_
    rintro e w8 ⟨rfl, c8⟩
    have b8 := b6.trans (c8.mono b6.size)
    clear c8
    go_wp2_with fail
    refine (implSum_any _ _ (by unfold maxLen; omega)).mono ?_
    rintro e w9 ⟨rfl, rfl⟩
    go_wp2_with fail
    refine (specSum_any _ _ (by unfold maxLen; omega)).mono ?_
    rintro e w9 ⟨rfl, rfl⟩
    go_wp2_with fail
    refine (implName_any _ _ (by unfold maxLen; omega)).mono ?_
    rintro e w9 ⟨rfl, rfl⟩
    go_wp2_with fail
    refine (specName_any _ _ (by unfold maxLen; omega)).mono ?_
    rintro e w9 ⟨rfl, rfl⟩
    go_wp2_with fail
    have hu1 : (u ++ ⟨#[97]⟩ : ByteArray).size ≤ maxLen := by rw [ByteArray.size_append]; show u.size + 1 ≤ _; unfold maxLen; omega
    have hu2 : (u ++ ⟨#[98]⟩ : ByteArray).size ≤ maxLen := by rw [ByteArray.size_append]; show u.size + 1 ≤ _; unfold maxLen; omega
    have hsum : (Nums.sumI (u.data.toList ++ [97]) == Nums.sumI (u.data.toList ++ [98])) = false := by rw [beq_eq_false_iff_ne]; exact Nums.sum_parts u.data.toList 97 98 rfl
    cases hok : Nums.okRead t at_ k
    · go_quiet ((go_at_call 13; first | exact Calls.quiet_of_same (implSum_any _ _ hu1) | exact Calls.quiet_of_same (implSum_any _ _ hu2)))
      clear hok hu1 hu2
      cases hsh : Nums.okShow n width
      · have he : (Nums.showS n width).toList.isEmpty = true := by rw [ByteArray.toList_eq, Nums.showS_empty, hsh]; rfl
        have hw : width = 0 ∨ width = 1 ∨ width = 2 ∨ width = 3 ∨ width = 4 ∨ width = 5 := by omega
        have hno : ¬ (1 ≤ width ∧ width ≤ 4 ∧ 0 ≤ n ∧ n < 256 ^ width.toNat) := fun hh => by rw [(Nums.okShow_iff n width).2 hh] at hsh; cases hsh
        clear hsh
        rcases hw with rfl | rfl | rfl | rfl | rfl | rfl
        all_goals simp at hno
        all_goals by_cases hn0 : 0 ≤ n
        all_goals go_wp2_with fail
        all_goals go_ret
        all_goals exact ⟨ret_bool (by simp <;> omega), ⟨b8.os, b8.tape, b8.output, b8.size, b8.block⟩⟩
      · have he : (Nums.showS n width).toList.isEmpty = false := by rw [ByteArray.toList_eq, Nums.showS_empty, hsh]; rfl
        have hk := (Nums.okShow_iff n width).1 hsh
        obtain ⟨r1, r2, r3⟩ := Nums.readN_show ⟨#[97, 98]⟩ rfl n width hsh
        have hz : (Nums.showS n width).size ≤ 4 := by omega
        have hz2 : (⟨#[97, 98]⟩ ++ Nums.showS n width : ByteArray).size ≤ maxLen := by rw [ByteArray.size_append]; show 2 + _ ≤ _; unfold maxLen; omega
        have H1 : Hid (Nums.okRead (⟨#[97, 98]⟩ ++ Nums.showS n width) 2 width = true) := r1
        have H2 : Hid (Nums.readN (⟨#[97, 98]⟩ ++ Nums.showS n width) 2 width = n) := r2
        clear r1 r2 hsh hk
        go_wp2_with fail
        refine (implRead_any _ _ _ _ hz2 (by omega)).mono ?_
        rintro e w10 ⟨rfl, rfl⟩
        rw [H1.out, H2.out]
        go_wp2_with fail
        go_ret
        exact ⟨rfl, ⟨b8.os, b8.tape, b8.output, b8.size, b8.block⟩⟩
    · have hq := (Nums.okRead_iff t at_ k).1 hok
      obtain ⟨q1, q2, q3, q4⟩ := hq
      obtain ⟨ad, rfl⟩ := Int.eq_ofNat_of_zero_le q3
      obtain ⟨kd, rfl⟩ := Int.eq_ofNat_of_zero_le (show 0 ≤ k by omega)
      have hsr := Nums.show_readN t ad kd (by omega) (by omega) (by omega)
      have hrr := Nums.readN_range t ad kd
      clear hok
      refine wp_region_below (by kernel_rfl) (by kernel_rfl) ?_
      repeat (go_big_quiet_step ((intro hb; first | (go_at_call 6; exact calls_below hb (implShow_any _ _ _ (by omega))) | (go_at_call 13; first | exact calls_same hb (implSum_any _ _ hu1) | exact calls_same hb (implSum_any _ _ hu2)) | rfl)))
      refine wpQuiet_nil ?_
      intro w10 c10
      have b10 := b8.trans (c10.mono b8.size)
      clear c10 hsr hrr hu1 hu2
      cases hsh : Nums.okShow n width
      · have he : (Nums.showS n width).toList.isEmpty = true := by rw [ByteArray.toList_eq, Nums.showS_empty, hsh]; rfl
        have hw : width = 0 ∨ width = 1 ∨ width = 2 ∨ width = 3 ∨ width = 4 ∨ width = 5 := by omega
        have hno : ¬ (1 ≤ width ∧ width ≤ 4 ∧ 0 ≤ n ∧ n < 256 ^ width.toNat) := fun hh => by rw [(Nums.okShow_iff n width).2 hh] at hsh; cases hsh
        clear hsh
        rcases hw with rfl | rfl | rfl | rfl | rfl | rfl
        all_goals simp at hno
        all_goals by_cases hn0 : 0 ≤ n
        all_goals go_wp2_with fail
        all_goals go_ret
        all_goals exact ⟨ret_bool (by simp <;> omega), b10⟩
      · have he : (Nums.showS n width).toList.isEmpty = false := by rw [ByteArray.toList_eq, Nums.showS_empty, hsh]; rfl
        have hk := (Nums.okShow_iff n width).1 hsh
        obtain ⟨r1, r2, r3⟩ := Nums.readN_show ⟨#[97, 98]⟩ rfl n width hsh
        have hz : (Nums.showS n width).size ≤ 4 := by omega
        have hz2 : (⟨#[97, 98]⟩ ++ Nums.showS n width : ByteArray).size ≤ maxLen := by rw [ByteArray.size_append]; show 2 + _ ≤ _; unfold maxLen; omega
        have H1 : Hid (Nums.okRead (⟨#[97, 98]⟩ ++ Nums.showS n width) 2 width = true) := r1
        have H2 : Hid (Nums.readN (⟨#[97, 98]⟩ ++ Nums.showS n width) 2 width = n) := r2
        clear r1 r2 hsh hk
        go_wp2_with fail
        refine (implRead_any _ _ _ _ hz2 (by omega)).mono ?_
        rintro e w12 ⟨rfl, rfl⟩
        rw [H1.out, H2.out]
        go_wp2_with fail
        go_ret
        exact ⟨rfl, b10⟩

set_option maxRecDepth 100000 in
theorem lifted (os : Os) (started : os.Started) (H : Type) (enc : TypeId × Value → H) :
    ReturnsInHanded {} Try.checked os 3 .any (Rows.fnNumbersSpec.pre6 enc Try.prog Try.f3 Rows.fnNumbersRow.domain false) (Rows.fnNumbersSpec.post enc Try.prog Try.f3 false true false false) := by
  refine returnsInHanded_of_change (C := Try.checked) own started (by kernel_rfl) Try.func3
    (ChangeSpec.witness6 (enc := enc) (C := Try.checked) false ⟨#[], #[.slice none 0 0], []⟩ 8 (by kernel_rfl) (by kernel_rfl) (by kernel_rfl) (by kernel_rfl)) ?_
  intro W base args ds gs before hval0 hW hcnd _
  have hval : ∀ (j : Nat) t v, Try.f3.params[j]? = some t → args[j]? = some v → Value.okWide Try.prog W .any base t v := hval0
  have hW' := hW
  obtain ⟨p, q, hA0, hV, rfl, hfz, hnd⟩ := hW
  have hA : DataW.TrodAll enc Try.prog W 0 (fun _ => true) true Try.f3.params.toList args.toList ds p := hA0
  rw [Try.params3] at hA hval
  obtain ⟨v0, vs0, d0, ds0, p0, q0, hargs, rfl, rfl, h0, r0⟩ := trodAll_cons hA
  obtain ⟨rfl, rfl, rfl⟩ := trodAll_nil r0
  obtain rfl : args = #[v0] := by cases args; simp_all
  obtain ⟨rfl, rfl⟩ := trodVars_none hV
  obtain ⟨a0, len0, cap0, rfl⟩ := okWide_slice Try.underlying22 (hval 0 22 v0 rfl rfl)
  have k0 := h0
  have lt0 : ∀ x ∈ p0, x.block < W.heap.size := by obtain ⟨m, hm⟩ := k0; exact DataW.trod_lt m _ _ _ hm
  obtain ⟨z0, w0⟩ : ∃ zs, IsRow .u8 W a0 len0 cap0 zs := by
    obtain ⟨fuel, hf⟩ := h0
    rcases open_ints Try.underlying22 Try.underlying5 (by kernel_rfl) hf with ⟨hcs, _⟩ | ⟨x, l, c, zs, hcs, _, hl, hm, hz, _, hcell, hwz⟩
    · simp [Value.cells] at hcs
      obtain ⟨rfl, rfl, rfl⟩ := hcs
      exact ⟨[], .inl ⟨rfl, rfl, rfl, rfl⟩⟩
    · simp [Value.cells] at hcs
      obtain ⟨rfl, rfl, rfl⟩ := hcs
      exact ⟨zs, .inr ⟨_, rfl, hl, hm, by simpa using hz, hcell, hwz⟩⟩
  clear hA0 hval0
  refine (walk a0 len0 cap0 z0 W w0).mono fun e W' ⟨he, bel⟩ => ?_
  subst he
  exact ⟨_, rfl, _, _, _, [], _, [], hW', trodAll_mk1 (shut_bool Try.underlying4 _), (trodAll_cons_mk (Below.trod laidOut (by kernel_rfl) (of_decide_eq_true (by kernel_rfl)) k0 bel lt0) trodAll_mk0), rfl, bel.frame _, fun h => by cases h⟩

theorem over : Rows.fnNumbersRow.holds Try.pinned (OpenSpec.ofChange Rows.fnNumbersSpec) :=
  OpenClaim.holds_of_wide 3 Try.f3 rfl rfl rfl rfl rfl rfl rfl ⟨rfl, rfl, rfl, rfl, rfl⟩ rfl rfl rfl rfl rfl (by kernel_rfl) Try.func3 (by kernel_rfl)
    (of_decide_eq_true (by kernel_rfl)) (by unfold Func.isWrapper; first | (rw [if_pos (by decide +kernel)]; kernel_rfl) | (rw [if_neg (by decide +kernel)]; exact ⟨rfl, rfl⟩))
    (fun os started H enc _ => lifted os started H enc)

theorem proved : Rows.FnNumbersSaid := over
#print axioms proved
end Go.Proofs.Ytjhnobplimnibaa.fnNumbers
