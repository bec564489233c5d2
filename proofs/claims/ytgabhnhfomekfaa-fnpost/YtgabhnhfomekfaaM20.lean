/-
  Contracts and plain laws, one chapter behind the other.
-/
import Derived.Deep.WholeRow
import Derived.Deep.DeepCutAuto
import Derived.Deep.RegionHeld3
import Derived.Deep.RegionLaw
import Derived.Test.YtgabhnhfomekfaaM01
import Derived.Test.YtgabhnhfomekfaaM03
import Derived.Test.YtgabhnhfomekfaaM06
import Derived.Test.YtgabhnhfomekfaaM07
import Derived.Test.YtgabhnhfomekfaaM14
import Derived.Test.YtgabhnhfomekfaaM16
import Derived.Test.YtgabhnhfomekfaaM19
namespace Go.Proofs.Ytgabhnhfomekfaa
open Go.RowKit

set_option linter.unusedVariables false

set_option maxRecDepth 100000


theorem wpList_load_arr {P : Program} {w : World} {ops : Array Oper} {rest : List Oper} {o : Oper} {a : Act} {Q : Exit → Act → World → Prop} (hgd : o.guard = none) (p : Operand) (t : TypeId) (ho : o.op = .load t p)
    (g : Nat) (hp : a.eval p = .pointer (some ⟨g, 0, none⟩)) (cs : Array Value) (ty : TypeId) (fr : Nat × Nat) (hg : w.heap[g]? = some (.cells cs ty fr)) (d : TypeDesc) (hu : P.underlying t = some d)
    (hd : (match d with | .struct _ | .array _ _ => true | _ => false) = true) (hi : (P.info? t).map (·.size) = some cs.size)
    (h : wpList P ops Q rest (a.put o.dst (.agg cs)) w) : wpList P ops Q (o :: rest) a w :=
  wpList_plain hgd fun K hK => by
    have hKK := hK _ _ h
    have hr := run_loadVar_row (P := P) w g ty t cs fr d hg hu hd hi
    unfold Oper.wp execOp
    simp only [ho, hp, Instr.loadAt, Instr.sureAddr, Sem.run_bind, Sem.run_pure, Result.andThen_ok, hr]
    exact hKK

theorem wpList_store_arr {P : Program} {w : World} {ops : Array Oper} {rest : List Oper} {o : Oper} {a : Act} {Q : Exit → Act → World → Prop} (hgd : o.guard = none) (p x : Operand) (t : TypeId) (ho : o.op = .store t p x)
    (g : Nat) (hp : a.eval p = .pointer (some ⟨g, 0, none⟩)) (cs : Array Value) (hx : a.eval x = .agg cs) (old : Array Value) (ty : TypeId) (hg : w.heap[g]? = some (.cells old ty (0, 0)))
    (hi : (P.info? t).map (·.size) = some cs.size) (hs : old.size = cs.size) (h1 : cs.all (·.oneCell') = true)
    (h : wpList P ops Q rest (a.put o.dst undef) (w.setRow g cs)) : wpList P ops Q (o :: rest) a w :=
  wpList_plain hgd fun K hK => by
    have hKK := hK _ _ h
    have hr := run_storeVar_row (P := P) w g ty t old cs hg hi hs h1
    unfold Oper.wp execOp
    simp only [ho, hp, hx, Instr.storeAt, Instr.sureAddr, Sem.run_bind, Sem.run_pure, Result.andThen_ok, hr]
    exact hKK

theorem setRow_row {w : World} {g : Nat} {old cs : Array Value} {ty : TypeId} {fr : Nat × Nat} (hg : w.heap[g]? = some (.cells old ty fr)) : (w.setRow g cs).heap[g]? = some (.cells cs ty fr) := by
  simp only [World.setRow, Array.getElem?_modify, hg, if_true]
  rfl

theorem setRow_below {w : World} {g B : Nat} {cs : Array Value} (h : B ≤ g) : Below B w (w.setRow g cs) := by
  refine ⟨rfl, rfl, rfl, by simp [World.setRow], fun k hk => ?_⟩
  simp only [World.setRow, Array.getElem?_modify]
  rw [if_neg (by omega)]
end Go.Proofs.Ytgabhnhfomekfaa

namespace Go.Proofs.Ytgabhnhfomekfaa
open Go.RowKit

set_option linter.unusedVariables false

set_option maxRecDepth 100000


set_option maxHeartbeats 1600000 in
theorem implEntryOk_any (sq cl tg k : Int) (nm ot : ByteArray) (at_ va ep : Int) (w : World) (hf : FitEnt ⟨sq, cl, tg, ⟨k, nm, ot, at_, va, ep⟩⟩) :
    Calls Try.prog 32 #[.agg #[.int .i64 sq, .int .i64 cl, .int .i64 tg, .int .i64 k, .string nm, .string ot, .int .i64 at_, .int .i64 va, .int .i64 ep]] w fun e w' => e = .returned (.bool (entOk ⟨sq, cl, tg, ⟨k, nm, ot, at_, va, ep⟩⟩)) ∧ Below w.heap.size w w' := by
  obtain ⟨⟨hn, ho⟩, -, -, -, fk, fa, fv, fe⟩ := hf
  simp only at hn ho fk fa fv fe
  obtain ⟨W0, hW0, k0, d0, z0⟩ := box1 w #[.int .i64 sq, .int .i64 cl, .int .i64 tg, .int .i64 k, .string nm, .string ot, .int .i64 at_, .int .i64 va, .int .i64 ep] 34
  have HW0 : Hid (W0 = _) := hW0
  have p0 := at_cell k0 0
  have p1 := at_cell k0 1
  have p2 := at_cell k0 2
  have p3 := at_cell k0 3
  have p4 := at_cell k0 4
  have p5 := at_cell k0 5
  have p6 := at_cell k0 6
  have p7 := at_cell k0 7
  have p8 := at_cell k0 8
  have HB : Hid (entOk ⟨sq, cl, tg, ⟨k, nm, ot, at_, va, ep⟩⟩ = (inB sq 1 1000 && inB tg 1 1000 && inB cl 0 3 && changes ⟨k, nm, ot, at_, va, ep⟩)) := rfl
  clear hW0 z0 k0
  go_enter Try.func32, Try.ntmps32
  go_wp2_with fail
  rw [← HW0.out]
  clear HW0
  refine (within_any sq 1 1000 _).mono ?_
  rintro e w' ⟨rfl, rfl⟩
  generalize inB sq 1 1000 = c0 at *
  cases c0
  · go_wp2_with fail
    go_ret
    exact ⟨ret_bool (by rw [HB.out]; rfl), d0⟩
  go_wp2_with fail
  refine (clientOk_any cl _).mono ?_
  rintro e w' ⟨rfl, rfl⟩
  generalize inB cl 0 3 = c1 at *
  cases c1
  · go_wp2_with fail
    go_ret
    exact ⟨ret_bool (by rw [HB.out, Bool.and_false, Bool.false_and]), d0⟩
  go_wp2_with fail
  refine (tagOk_any tg _).mono ?_
  rintro e w' ⟨rfl, rfl⟩
  generalize inB tg 1 1000 = c2 at *
  cases c2
  · go_wp2_with fail
    go_ret
    exact ⟨ret_bool (by rw [HB.out]; rfl), d0⟩
  go_wp2_with fail
  refine (implChanges_any k nm ot at_ va ep _ hn ho fk fa fv fe).mono ?_
  rintro e w1 ⟨rfl, b1⟩
  replace d0 := bw_call d0 b1
  generalize changes ⟨k, nm, ot, at_, va, ep⟩ = c3 at *
  go_wp2_with fail
  go_ret
  exact ⟨ret_bool (by rw [HB.out]; rfl), d0⟩
end Go.Proofs.Ytgabhnhfomekfaa

namespace Go.Proofs.Ytgabhnhfomekfaa
open Go.RowKit

set_option linter.unusedVariables false

set_option maxRecDepth 100000


theorem within_rep (x lo hi : Int) (w : World) :
    Calls Try.prog 33 #[.int .i64 x, .int .i64 lo, .int .i64 hi] w fun e w' => e = .returned (.bool (inB x lo hi)) ∧ w' = w := by
  by_cases h : lo ≤ x
  · go_enter Try.func33, Try.ntmps33
    go_wp2
    go_ret
    exact ⟨ret_bool (by simp [inB, h]), rfl⟩
  · go_enter Try.func33, Try.ntmps33
    go_wp2
    go_ret
    exact ⟨ret_bool (by simp [inB]; omega), rfl⟩

theorem implReplyOk_any (c v : Int) (w : World) :
    Calls Try.prog 34 #[.agg #[.int .i64 c, .int .i64 v]] w fun e w' => e = .returned (.bool (repOk c v)) ∧ Below w.heap.size w w' := by
  obtain ⟨W0, hW0, k0, d0, z0⟩ := box1 w #[.int .i64 c, .int .i64 v] 36
  have HW0 : Hid (W0 = _) := hW0
  have p0 := at_cell k0 0
  have p1 := at_cell k0 1
  have HB : Hid (repOk c v = (inB c 0 9 && inB v 0 (if c = 0 then 1000 else 0))) := repOk_by c v
  clear hW0 k0
  by_cases h0 : c = 0
  · subst h0
    rw [if_pos rfl] at HB
    go_enter Try.func34, Try.ntmps34
    go_wp2_with fail
    rw [← HW0.out]
    clear HW0
    refine (within_rep 0 0 9 _).mono ?_
    have hin : inB 0 0 9 = true := rfl
    rw [hin] at HB ⊢
    rintro e w' ⟨rfl, rfl⟩
    clear hin
    go_wp2_with fail
    refine (within_rep v 0 1000 _).mono ?_
    generalize inB v 0 1000 = b1 at *
    rintro e w' ⟨rfl, rfl⟩
    go_wp2_with fail
    go_ret
    exact ⟨ret_bool (by rw [HB.out]; rfl), d0⟩
  · rw [if_neg h0] at HB
    go_enter Try.func34, Try.ntmps34
    go_wp2_with fail
    rw [← HW0.out]
    clear HW0 h0
    refine (within_rep c 0 9 _).mono ?_
    generalize inB c 0 9 = b0 at *
    rintro e w' ⟨rfl, rfl⟩
    cases b0
    · go_wp2_with fail
      go_ret
      exact ⟨ret_bool (by rw [HB.out]; rfl), d0⟩
    go_wp2_with fail
    refine (within_rep v 0 0 _).mono ?_
    generalize inB v 0 0 = b1 at *
    rintro e w' ⟨rfl, rfl⟩
    go_wp2_with fail
    go_ret
    exact ⟨ret_bool (by rw [HB.out]; rfl), d0⟩
end Go.Proofs.Ytgabhnhfomekfaa

namespace Go.Proofs.Ytgabhnhfomekfaa
open Go.RowKit Nums

set_option linter.unusedVariables false

set_option maxRecDepth 100000


theorem within14_any (x lo hi : Int) (w : World) :
    Calls Try.prog 33 #[.int .i64 x, .int .i64 lo, .int .i64 hi] w fun e w' => e = .returned (.bool (inB x lo hi)) ∧ w' = w := by
  by_cases h : lo ≤ x
  · have HV : Hid (inB x lo hi = decide (x ≤ hi)) := by rw [Hid, inB, decide_eq_true h, Bool.true_and]
    go_enter Try.func33, Try.ntmps33
    go_wp2_with fail
    go_ret
    exact ⟨ret_bool HV.out.symm, rfl⟩
  · have HV : Hid (inB x lo hi = false) := by rw [Hid, inB, decide_eq_false h, Bool.false_and]
    go_enter Try.func33, Try.ntmps33
    go_wp2_with fail
    go_ret
    exact ⟨ret_bool HV.out.symm, rfl⟩

theorem houseIdOk_any (x : Int) (w : World) :
    Calls Try.prog 30 #[.int .i64 x] w fun e w' => e = .returned (.bool (inB x 0 3)) ∧ w' = w := by
  go_enter Try.func30, Try.ntmps30
  go_wp2_with fail
  refine (within14_any x 0 3 _).mono ?_
  rintro e w1 ⟨rfl, rfl⟩
  go_wp2_with fail
  go_ret
  exact ⟨rfl, rfl⟩

theorem viewNumberOk_any (x : Int) (w : World) :
    Calls Try.prog 29 #[.int .i64 x] w fun e w' => e = .returned (.bool (inB x 1 1000)) ∧ w' = w := by
  go_enter Try.func29, Try.ntmps29
  go_wp2_with fail
  refine (within14_any x 1 1000 _).mono ?_
  rintro e w1 ⟨rfl, rfl⟩
  go_wp2_with fail
  go_ret
  exact ⟨rfl, rfl⟩
end Go.Proofs.Ytgabhnhfomekfaa

