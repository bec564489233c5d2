/-
  A reply as an argument, opened; the laws' helper that copies it.
-/
import Derived.Test.YtnncbikmapjlfaaRepM
import Derived.Test.YtnncbikmapjlfaaArgs
import Derived.Test.YtnncbikmapjlfaaSetAt
import Derived.Test.YtnncbikmapjlfaaMapM
import Derived.Test.YtnncbikmapjlfaaOpLaw
namespace Go.Proofs.Ytnncbikmapjlfaa
open Go.ChangeShapes Go.WideShapes Go.ChangeAt Go.RowKit Go.Joins
set_option linter.unusedVariables false
set_option maxRecDepth 100000

theorem list2r {α : Type} {cs : List α} (h : cs.length = 2) : ∃ c0 c1, cs = [c0, c1] := by
  match cs, h with
  | [c0, c1], _ => exact ⟨c0, c1, rfl⟩

theorem open_reply {H : Type} {enc : TypeId × Value → H} {W : World} {base : Nat} {v : Value} {d : DataW H} {p : List MemPlace} (hv : Value.okWide Try.prog W .any base 48 v) (h : DataW.Trod enc Try.prog W 0 (fun _ => true) true 48 v d p) :
    ∃ (c x : Int), v = .agg #[.int .i64 c, .int .i64 x] ∧ I64 c ∧ I64 x := by
  obtain ⟨cs, rfl, hsz⟩ := okWide_struct Try.underlying48 hv
  obtain ⟨fuel, hf⟩ := h
  have ce : Try.prog.cellsOf 48 = 2 := by kernel_rfl
  have c1 : Try.prog.cellsOf 2 = 1 := by kernel_rfl
  obtain ⟨xs, m, _, -, hl, hlen, hf⟩ := DataW.trod_struct Try.underlying48 hf
  have el : (Value.agg cs).cells.toList = cs.toList := by simp [Value.cells]
  rw [el] at hl hf
  obtain ⟨v0, v1, hc⟩ := list2r (hl.trans ce)
  rw [hc] at hf
  obtain ⟨y0, y1, rfl⟩ := list2r (show xs.length = 2 from hlen)
  have t0 := hf 0 _ rfl
  have t1 := hf 1 _ rfl
  simp [c1] at t0 t1
  obtain ⟨k, e0, _, z0⟩ := DataW.trod_int Try.underlying2 t0
  obtain ⟨x, e1, _, z1⟩ := DataW.trod_int Try.underlying2 t1
  simp at e0 e1
  subst e0 e1
  refine ⟨k, x, ?_, lit_i64o z0, lit_i64o z1⟩
  rw [show cs = [Value.int .i64 k, .int .i64 x].toArray by rw [← hc]]

theorem toReply_any (c v : Int) (w : World) :
    Calls Try.prog 54 #[.agg #[.int .i64 c, .int .i64 v]] w fun e w' => e = .returned (.agg #[.int .i64 c, .int .i64 v]) ∧ Below w.heap.size w w' := by
  go_enter Try.func54, Try.ntmps54
  go_wp2_with fail
  exact bodyPost_ret (v := .agg #[.int .i64 c, .int .i64 v]) (by simp [results, Try.results54, go_sem]) rfl ⟨rfl, by go_grown⟩

end Go.Proofs.Ytnncbikmapjlfaa
