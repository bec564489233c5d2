/-
  The law FnExactReadReply answers true at every input that the row speaks of, and its arguments read afterwards as before; the walk goes over the callees' contracts.
-/
import Derived.Test.YtdkciaeibkhbgaaRows
import Derived.WalkKit
import Derived.ProofKit
import Derived.OpenShut
import Derived.ChangeOld
import Derived.Below
import Derived.Carry
import Derived.Test.YtdkciaeibkhbgaaArgs
import Derived.Test.YtdkciaeibkhbgaaArgsRep
import Derived.Test.YtdkciaeibkhbgaaRep1
import Derived.Test.YtdkciaeibkhbgaaImRep
import Derived.Test.YtdkciaeibkhbgaaReplyLaw
namespace Go.Proofs.Ytdkciaeibkhbgaa.fnExactReadReply
open Go.ChangeShapes Go.WideShapes Go.ChangeAt Go.RowKit
set_option linter.unusedVariables false

theorem own : ownKnob Try.prog.godebug = none := by kernel_rfl
theorem laidOut : laidOutB Try.prog = true := by kernel_rfl

set_option maxHeartbeats 4000000 in
theorem walk (a0 : ByteArray) (w : World) (w0 : a0.size ≤ maxLen) :
    Calls Try.prog 7 #[.string a0] w fun e w' => e = .returned (.bool true) ∧ Below w.heap.size w w' := by
  have d : Below w.heap.size w w := Below.refl _ _
  unfold maxLen at w0
  by_cases hbig : (1048576 : Int) < (a0.size : Int)
  · go_enter Try.func7, Try.ntmps7
    go_wp2_with fail
    go_ret
    exact ⟨rfl, d⟩
  have hsz : a0.size ≤ 1099511627776 := by omega
  obtain ⟨⟨⟨rc, rv⟩, nv⟩, hnv⟩ : ∃ x, readRep a0 = x := ⟨_, rfl⟩
  have HFD : Hid (readRep a0 = ((rc, rv), nv)) := hnv
  clear hnv
  go_enter Try.func7, Try.ntmps7
  go_wp2_with fail
  refine (specReadReply_any a0 _ hsz).mono ?_
  rw [HFD.out]
  simp only
  rintro e wd ⟨rfl, b⟩
  replace d := bw_call d b
  clear b
  have b : Below wd.heap.size wd (wd.alloc (.cells #[.int .i64 rc, .int .i64 rv] 42)) := bw_alloc (Below.refl _ _)
  have kB := heap_alloc_new wd (.cells #[.int .i64 rc, .int .i64 rv] 42)
  have sB : wd.heap.size < (wd.alloc (.cells #[.int .i64 rc, .int .i64 rv] 42)).heap.size := by simp
  replace d := bw_call d b
  clear b
  go_wp2_with fail
  generalize wd.alloc (.cells #[.int .i64 rc, .int .i64 rv] 42) = We at *
  refine (implReadReply_any a0 _ hsz).mono ?_
  rw [HFD.out]
  simp only
  rintro e wg ⟨rfl, b⟩
  replace d := bw_call d b
  replace kB := (b.block _ sB).trans kB
  replace sB := Nat.lt_of_lt_of_le sB b.size
  clear b
  have b : Below wg.heap.size wg (wg.alloc (.cells #[.int .i64 rc, .int .i64 rv] 42)) := bw_alloc (Below.refl _ _)
  have kG := heap_alloc_new wg (.cells #[.int .i64 rc, .int .i64 rv] 42)
  have sG : wg.heap.size < (wg.alloc (.cells #[.int .i64 rc, .int .i64 rv] 42)).heap.size := by simp
  replace d := bw_call d b
  replace kB := (b.block _ sB).trans kB
  replace sB := Nat.lt_of_lt_of_le sB b.size
  clear b
  have pB0 := at_cell kB 0
  have pG0 := at_cell kG 0
  have pB1 := at_cell kB 1
  have pG1 := at_cell kG 1
  go_wp2_with fail
  clear pB0 pG0 pB1 pG1
  generalize wg.alloc (.cells #[.int .i64 rc, .int .i64 rv] 42) = Wy at *
  refine (eqReply_same _ _ _).mono ?_
  rintro e wh ⟨rfl, b⟩
  replace d := bw_call d b
  replace kB := (b.block _ sB).trans kB
  replace sB := Nat.lt_of_lt_of_le sB b.size
  replace kG := (b.block _ sG).trans kG
  replace sG := Nat.lt_of_lt_of_le sG b.size
  clear b
  have hself : (nv != nv) = false := by simp
  go_wp2_with fail
  go_ret
  exact ⟨rfl, d⟩

set_option maxRecDepth 100000 in
theorem lifted (os : Os) (started : os.Started) (H : Type) (enc : TypeId × Value → H) :
    ReturnsInHanded {} Try.checked os 7 .any (Rows.fnExactReadReplySpec.pre6 enc Try.prog Try.f7 Rows.fnExactReadReplyRow.domain false) (Rows.fnExactReadReplySpec.post enc Try.prog Try.f7 false true false false) := by
  refine returnsInHanded_of_change (C := Try.checked) own started (by kernel_rfl) Try.func7
    (ChangeSpec.witness6 (enc := enc) (C := Try.checked) false ⟨#[], #[.string ByteArray.empty], []⟩ 8 (by kernel_rfl) (by kernel_rfl) (by kernel_rfl) (by kernel_rfl)) ?_
  intro W base args ds gs before hval0 hW hcnd _
  have hval : ∀ (j : Nat) t v, Try.f7.params[j]? = some t → args[j]? = some v → Value.okWide Try.prog W .any base t v := hval0
  have hW' := hW
  obtain ⟨p, q, hA0, hV, rfl, hfz, hnd⟩ := hW
  have hA : DataW.TrodAll enc Try.prog W 0 (fun _ => true) true Try.f7.params.toList args.toList ds p := hA0
  rw [Try.params7] at hA hval
  obtain ⟨v0, vs0, d0, ds0, p0, q0, hargs, rfl, rfl, h0, rr0⟩ := trodAll_cons hA
  obtain ⟨rfl, rfl, rfl⟩ := trodAll_nil rr0
  obtain rfl : args = #[v0] := by cases args; simp_all
  obtain ⟨rfl, rfl⟩ := trodVars_none hV
  have kk0 := h0
  have lt0 : ∀ x ∈ p0, x.block < W.heap.size := by obtain ⟨fuel, hfuel⟩ := kk0; exact DataW.trod_lt fuel _ _ _ hfuel
  obtain ⟨a0, rfl, w0⟩ := open_str (hval 0 9 v0 rfl rfl) h0
  clear hA0 hval0
  refine (walk a0 W w0).mono fun e W' ⟨he, bel⟩ => ?_
  subst he
  exact ⟨_, rfl, _, _, _, [], _, [], hW', trodAll_mk1 (shut_bool Try.underlying4 _), (trodAll_cons_mk (Below.trod laidOut (by kernel_rfl) (of_decide_eq_true (by kernel_rfl)) kk0 bel lt0) trodAll_mk0), rfl, bel.frame _, fun h => by cases h⟩

theorem over : Rows.fnExactReadReplyRow.holds Try.pinned (OpenSpec.ofChange Rows.fnExactReadReplySpec) :=
  OpenClaim.holds_of_wide 7 Try.f7 rfl rfl rfl rfl rfl rfl rfl ⟨rfl, rfl, rfl, rfl, rfl⟩ rfl rfl rfl rfl rfl (by kernel_rfl) Try.func7 (by kernel_rfl)
    (of_decide_eq_true (by kernel_rfl)) (by unfold Func.isWrapper; first | (rw [if_pos (by decide +kernel)]; kernel_rfl) | (rw [if_neg (by decide +kernel)]; exact ⟨rfl, rfl⟩))
    (fun os started H enc _ => lifted os started H enc)

theorem proved : Rows.FnExactReadReplySaid :=
  over
#print axioms proved
end Go.Proofs.Ytdkciaeibkhbgaa.fnExactReadReply
