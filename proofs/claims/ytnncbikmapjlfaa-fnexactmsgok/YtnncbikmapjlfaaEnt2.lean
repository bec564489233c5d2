/-
  Chapter 11: entries compared; the specification's Begins and SeqOf, at every argument.
-/
import Derived.Test.YtnncbikmapjlfaaEnt1
import Derived.Test.YtnncbikmapjlfaaTexts
import Derived.Laws.StructEq
import Derived.BigQuiet
namespace Go.Proofs.Ytnncbikmapjlfaa
open Go.RowKit
set_option linter.unusedVariables false
set_option maxRecDepth 100000

theorem text_iff (a b : ByteArray) : a.toList = b.toList ↔ a = b := by
  constructor
  · intro h
    apply ext_list
    rwa [ByteArray.toList_eq, ByteArray.toList_eq] at h
  · rintro rfl; rfl
theorem ent_equal (sq cl tg k : Int) (nm ot : ByteArray) (at_ va ep : Int) (sq1 cl1 tg1 k1 : Int) (nm1 ot1 : ByteArray) (at_1 va1 ep1 : Int) (w : World) : (Op.equalIn 10000 34 (.agg #[.int .i64 sq, .int .i64 cl, .int .i64 tg, .int .i64 k, .string nm, .string ot, .int .i64 at_, .int .i64 va, .int .i64 ep]) (.agg #[.int .i64 sq1, .int .i64 cl1, .int .i64 tg1, .int .i64 k1, .string nm1, .string ot1, .int .i64 at_1, .int .i64 va1, .int .i64 ep1])).run Try.prog w = .ok (entEq ⟨sq, cl, tg, ⟨k, nm, ot, at_, va, ep⟩⟩ ⟨sq1, cl1, tg1, ⟨k1, nm1, ot1, at_1, va1, ep1⟩⟩) w := by
  go_simp
  simp only [entEq, oqEq, text_iff]
  repeat' split
  all_goals simp [*]
theorem begs_at {a b : List Ent} {k : Nat} (ha : k < a.length) (hb : k < b.length) (h : a[k] ≠ b[k]) : begs a b = false := by
  rw [Bool.eq_false_iff]
  intro h2
  apply h
  have h3 := (begs_iff a b).1 h2
  have : a[k]? = (b.take a.length)[k]? := by rw [← h3]
  rw [List.getElem?_take, if_pos ha, List.getElem?_eq_getElem ha, List.getElem?_eq_getElem hb] at this
  exact Option.some.inj this
theorem begs_all {a b : List Ent} {k : Nat} (hk : ¬ k < a.length) (h : a.take k = b.take k) (hl : k ≤ a.length) : begs a b = true := by
  obtain rfl : k = a.length := by omega
  rw [List.take_length] at h
  exact (begs_iff a b).2 h

end Go.Proofs.Ytnncbikmapjlfaa
