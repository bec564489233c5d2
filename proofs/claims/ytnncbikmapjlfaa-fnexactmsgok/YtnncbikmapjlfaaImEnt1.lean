/-
  Chapter 11: the program's EntryOk and LogOk, at every argument.
-/
import Derived.Test.YtnncbikmapjlfaaEnt2
import Derived.Test.YtnncbikmapjlfaaImTag
import Derived.Test.YtnncbikmapjlfaaArr
namespace Go.Proofs.Ytnncbikmapjlfaa
open Go.RowKit
set_option linter.unusedVariables false
set_option maxRecDepth 100000

set_option maxHeartbeats 1600000 in
theorem implEntryOk_any (sq cl tg k : Int) (nm ot : ByteArray) (at_ va ep : Int) (w : World) (hf : FitEnt ⟨sq, cl, tg, ⟨k, nm, ot, at_, va, ep⟩⟩) :
    Calls Try.prog 44 #[.agg #[.int .i64 sq, .int .i64 cl, .int .i64 tg, .int .i64 k, .string nm, .string ot, .int .i64 at_, .int .i64 va, .int .i64 ep]] w fun e w' => e = .returned (.bool (entOk ⟨sq, cl, tg, ⟨k, nm, ot, at_, va, ep⟩⟩)) ∧ Below w.heap.size w w' := by
  obtain ⟨⟨hn, ho⟩, -, -, -, fk, fa, fv, fe⟩ := hf
  simp only at hn ho fk fa fv fe
  obtain ⟨W0, hW0, k0, d0, z0⟩ := box1 w #[.int .i64 sq, .int .i64 cl, .int .i64 tg, .int .i64 k, .string nm, .string ot, .int .i64 at_, .int .i64 va, .int .i64 ep] 34
  have HW0 : Hid (W0 = _) := hW0
  have p0 := at_cell k0 0
  have p1 := at_cell k0 1
  have p2 := at_cell k0 2
  have p3 := at_cell k0 3
  have p4 := at_cell k0 4
  have p5 := at_cell k0 5
  have p6 := at_cell k0 6
  have p7 := at_cell k0 7
  have p8 := at_cell k0 8
  have HB : Hid (entOk ⟨sq, cl, tg, ⟨k, nm, ot, at_, va, ep⟩⟩ = (inB sq 1 1000 && inB tg 1 1000 && inB cl 0 3 && changes ⟨k, nm, ot, at_, va, ep⟩)) := rfl
  clear hW0 z0 k0
  go_enter Try.func44, Try.ntmps44
  go_wp2_with fail
  rw [← HW0.out]
  clear HW0
  refine (within_any sq 1 1000 _).mono ?_
  rintro e w' ⟨rfl, rfl⟩
  generalize inB sq 1 1000 = c0 at *
  cases c0
  · go_wp2_with fail
    go_ret
    exact ⟨ret_bool (by rw [HB.out]; rfl), d0⟩
  go_wp2_with fail
  refine (clientOk_any cl _).mono ?_
  rintro e w' ⟨rfl, rfl⟩
  generalize inB cl 0 3 = c1 at *
  cases c1
  · go_wp2_with fail
    go_ret
    exact ⟨ret_bool (by rw [HB.out, Bool.and_false, Bool.false_and]), d0⟩
  go_wp2_with fail
  refine (tagOk_any tg _).mono ?_
  rintro e w' ⟨rfl, rfl⟩
  generalize inB tg 1 1000 = c2 at *
  cases c2
  · go_wp2_with fail
    go_ret
    exact ⟨ret_bool (by rw [HB.out]; rfl), d0⟩
  go_wp2_with fail
  refine (implChanges_any k nm ot at_ va ep _ hn ho fk fa fv fe).mono ?_
  rintro e w1 ⟨rfl, b1⟩
  replace d0 := bw_call d0 b1
  generalize changes ⟨k, nm, ot, at_, va, ep⟩ = c3 at *
  go_wp2_with fail
  go_ret
  exact ⟨ret_bool (by rw [HB.out]; rfl), d0⟩

end Go.Proofs.Ytnncbikmapjlfaa
