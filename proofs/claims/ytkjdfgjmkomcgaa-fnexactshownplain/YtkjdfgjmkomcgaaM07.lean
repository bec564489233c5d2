/-
  Contracts and plain laws, one chapter behind the other.
-/
import Derived.Deep.WholeRow
import Derived.Lib.LazyBuf
import Derived.Deep.DeepCutAuto
import Derived.Test.YtkjdfgjmkomcgaaM01
import Derived.Test.YtkjdfgjmkomcgaaM02
import Derived.Test.YtkjdfgjmkomcgaaM03
import Derived.Test.YtkjdfgjmkomcgaaM04
import Derived.Test.YtkjdfgjmkomcgaaM05
import Derived.Test.YtkjdfgjmkomcgaaM06
namespace Go.Proofs.Ytkjdfgjmkomcgaa
open Go.RowKit

set_option linter.unusedVariables false

set_option maxRecDepth 100000


theorem at_ahead (f c p : Int) (w : World) : (method 277 106 (.agg #[.int .i64 f, .int .i64 c, .int .i64 p]) "loop.example/g00372/impl.isAheadOf").run Try.prog w = .ok (142, .agg #[.int .i64 f, .int .i64 c, .int .i64 p]) w := by kernel_rfl

theorem at_on (f c p : Int) (w : World) : (method 277 106 (.agg #[.int .i64 f, .int .i64 c, .int .i64 p]) "loop.example/g00372/impl.goesOnIn").run Try.prog w = .ok (141, .agg #[.int .i64 f, .int .i64 c, .int .i64 p]) w := by kernel_rfl

set_option maxHeartbeats 3200000 in
theorem listRight_any (v : Value) (rs : List (Int × Int × Int)) (w : World) (hfit : FitRuns rs) (r : ReadsR 3 runC w.heap.size w v rs) :
    Calls Try.prog 123 #[v] w fun e w' => e = .returned (.bool (okFrom 0 none rs)) ∧ Below w.heap.size w w' := by
  obtain ⟨o, cap, rfl, hm, hc, -⟩ := r
  have HC : Hid _ := three_cells hc
  have HF : Hid _ := hfit
  unfold maxLen at hm
  clear hc hfit
  go_enter Try.func123, Try.ntmps123
  go_wp2_with fail
  go_loopw [7] (fun i wr => ∃ (k : Nat) (e : Int), k ≤ rs.length ∧ i = .int .i64 k ∧ (k = 0 → e = 0) ∧ okFrom 0 none rs = okFrom e (prevOf rs k) (rs.drop k) ∧ (∀ q, prevOf rs k = some q → runRight q = true ∧ e = q.1 + q.2.1) ∧ Below w.heap.size w wr) (fun i _ => rs.length - (intOf i).toNat)
  case atStart => exact ⟨0, 0, Nat.zero_le _, rfl, fun _ => rfl, rfl, fun q hq => by simp [prevOf] at hq, Below.refl _ _⟩
  case round =>
    obtain ⟨k, e, hk, rfl, hk0, hok, hpv, hb⟩ := hrel
    by_cases hlt : k < rs.length
    · obtain ⟨g, off, rfl, hg, a0, a1, a2⟩ := HC.out k hlt
      have hst := okFrom_step rs e k hlt
      rw [← hok] at hst
      have hfk := HF.out rs[k] (List.getElem_mem hlt)
      replace a0 := (hb.cell (p := ⟨g, off + k * 3, none⟩) hg).trans a0
      replace a1 := (hb.cell (p := ⟨g, off + k * 3 + 1, none⟩) hg).trans a1
      replace a2 := (hb.cell (p := ⟨g, off + k * 3 + 2, none⟩) hg).trans a2
      obtain ⟨x, hx⟩ : ∃ x, rs[k] = x := ⟨_, rfl⟩
      rw [hx] at a0 a1 a2 hfk
      obtain ⟨f, c, p⟩ := x
      simp only at a0 a1 a2 hfk
      have HNO : Hid (runOk e (prevOf rs k) (f, c, p) = false → okFrom 0 none rs = false) := fun h => by rw [hst, hx, h]; rfl
      have HYES : Hid (runOk e (prevOf rs k) (f, c, p) = true → okFrom 0 none rs = okFrom (f + c) (prevOf rs (k + 1)) (rs.drop (k + 1))) := fun h => by rw [hst, hx, h, Bool.true_and]
      have HPV1 : Hid (prevOf rs (k + 1) = some (f, c, p)) := by rw [Hid, prevOf, if_neg (by omega), Nat.add_sub_cancel, List.getElem?_eq_getElem hlt, hx]
      have hprev : ∀ k', k = k' + 1 → ∃ q, prevOf rs k = some q ∧ w.cell? ⟨g, off + k' * 3, none⟩ = some (.int .i64 q.1) ∧ w.cell? ⟨g, off + k' * 3 + 1, none⟩ = some (.int .i64 q.2.1) ∧ w.cell? ⟨g, off + k' * 3 + 2, none⟩ = some (.int .i64 q.2.2) := fun k' hk' => by
        obtain ⟨g', off', e', -, b0, b1, b2⟩ := HC.out k' (by omega)
        cases e'
        refine ⟨rs[k'], ?_, b0, b1, b2⟩
        rw [prevOf, if_neg (by omega), show k - 1 = k' by omega, List.getElem?_eq_getElem (by omega)]
      have HPREV : Hid _ := hprev
      have HPVB : Hid _ := hpv
      have HK0 : Hid _ := hk0
      have hbA : Below w.heap.size w (wr.alloc (.cells #[.int .i64 f, .int .i64 c, .int .i64 p] 106)) := bw_alloc hb
      have kB := heap_alloc_new wr (.cells #[.int .i64 f, .int .i64 c, .int .i64 p] 106)
      have sB : wr.heap.size < (wr.alloc (.cells #[.int .i64 f, .int .i64 c, .int .i64 p] 106)).heap.size := by simp
      clear hst hok hprev hpv HC hx hk0
      go_wp2_with fail
      refine (implRun_right f c p _ hfk.1.2 hfk.2.2.2).mono ?_
      generalize wr.alloc (.cells #[.int .i64 f, .int .i64 c, .int .i64 p] 106) = W5 at *
      generalize wr.heap.size = nB at *
      rintro e' w6 ⟨rfl, b6⟩
      replace kB := (b6.block nB sB).trans kB
      replace sB := Nat.lt_of_lt_of_le sB b6.size
      replace hbA := bw_call hbA b6
      clear b6
      cases hr : runRight (f, c, p)
      · have HH := hr
        have HV : Hid _ := HNO.out (runOk_false e _ f c p (fun q => by
          rw [← Bool.not_eq_true, runRight_iff] at HH
          by_cases k0 : k = 0
          · have := HK0.out k0; omega
          · obtain ⟨k', rfl⟩ : ∃ k', k = k' + 1 := ⟨k - 1, by omega⟩
            obtain ⟨q', hq', -⟩ := HPREV.out k' rfl
            obtain ⟨h1, h2⟩ := HPVB.out q' hq'
            obtain ⟨qf, qc, qp⟩ := q'
            rw [runRight_iff] at h1
            simp only at h2
            omega))
        clear HH hr
        go_wp2_with fail
        go_ret
        exact ⟨ret_bool HV.out.symm, hbA⟩
      rw [runRight_iff] at hr
      have HRR : Hid (∀ q, prevOf rs (k + 1) = some q → runRight q = true ∧ f + c = q.1 + q.2.1) := fun q hq => by
        rw [HPV1.out] at hq; cases hq; exact ⟨(runRight_iff f c p).2 hr, rfl⟩
      rcases Nat.eq_zero_or_pos k with hk0 | hkp
      · subst hk0
        have HV : Hid _ := HYES.out ((runOk_iff e _ f c p).2 ⟨by have := HK0.out rfl; omega, by omega, by omega, by omega, by omega, by omega, fun q hq => by simp [prevOf] at hq⟩)
        clear HYES HNO HPVB HPREV HK0
        go_wp2_with fail
        go_quiet (fail)
        go_wp2_with fail
        go_roundw
        case rel => exact ⟨0 + 1, f + c, by omega, by go_num, fun h => by omega, HV.out, HRR.out, ⟨hbA.os, hbA.tape, hbA.output, hbA.size, hbA.block⟩⟩
        case measure => simp [intOf]; omega
      · obtain ⟨k', rfl⟩ : ∃ k', k = k' + 1 := ⟨k - 1, by omega⟩
        obtain ⟨⟨qf, qc, qp⟩, hpq, b0, b1, b2⟩ := HPREV.out k' rfl
        obtain ⟨hq1, hq2⟩ := HPVB.out _ hpq
        rw [runRight_iff] at hq1
        simp only at hq2 b0 b1 b2
        have hgs : g < w6.heap.size := Nat.lt_of_lt_of_le hg hbA.size
        have hne := BelowOf.any w6
        have ma := at_ahead
        have mo := at_on
        have d0 := BelowOf.cell ((hbA.cell (p := ⟨g, off + k' * 3, none⟩) hg).trans b0) hgs
        have d1 := BelowOf.cell ((hbA.cell (p := ⟨g, off + k' * 3 + 1, none⟩) hg).trans b1) hgs
        have d2 := BelowOf.cell ((hbA.cell (p := ⟨g, off + k' * 3 + 2, none⟩) hg).trans b2) hgs
        have f0 := BelowOf.cell (at_cell kB 0) sB
        have f1 := BelowOf.cell (at_cell kB 1) sB
        have f2 := BelowOf.cell (at_cell kB 2) sB
        have hw1 : IntKind.i64.wrap ((k' : Int) + 1 - 1) = k' := by rw [IntKind.wrap_i64]; omega
        have hw2 : (k' : Int) + 1 - 1 = k' := by omega
        have hw3 : IntKind.i64.wrap (k' : Int) = k' := by rw [IntKind.wrap_i64]; omega
        have hi0 : (0 : Int) ≤ (k' : Int) := by omega
        have hi1 : (k' : Int) < (rs.length : Int) := by omega
        have hq0 : (0 : Int) < (k' : Int) + 1 := by omega
        by_cases h1 : qf + qc ≤ f
        · have HA : ∀ q : BelowOf w6, Calls Try.prog 142 #[.agg #[.int .i64 qf, .int .i64 qc, .int .i64 qp], .agg #[.int .i64 f, .int .i64 c, .int .i64 p]] q.w' fun e w' => e = .returned (.bool true) ∧ Below q.w'.heap.size q.w' w' := fun q => by have h := implRun_ahead qf qc qp f c p q.w' (by omega); rwa [decide_eq_true h1] at h
          by_cases h2 : qf + qc = f ∧ qp + qc = p
          · have HO : ∀ q : BelowOf w6, Calls Try.prog 141 #[.agg #[.int .i64 qf, .int .i64 qc, .int .i64 qp], .agg #[.int .i64 f, .int .i64 c, .int .i64 p]] q.w' fun e w' => e = .returned (.bool true) ∧ Below q.w'.heap.size q.w' w' := fun q => by have h := implRun_on qf qc qp f c p q.w' (by omega); rwa [decide_eq_true h2.1, decide_eq_true h2.2] at h
            have HV : Hid _ := HNO.out (runOk_false e _ f c p (fun h => h.2.2.2.2.2.2 _ hpq ⟨by omega, by simp only; omega⟩))
            clear HYES HNO HPVB HPREV HK0 hpq
            go_wp2_with fail
            refine wp_region_of (by kernel_rfl) (by kernel_rfl) ?_
            repeat (go_big_quiet_step ((first | (go_at_call 142; exact calls_of (HA _)) | (go_at_call 141; exact calls_of (HO _)) | rfl)))
            refine wpQuiet_nil ?_
            intro w7 hw7
            obtain ⟨⟨wx, cx⟩, hwx⟩ := hw7
            have b7 : Below w6.heap.size w6 w7 := by rw [hwx]; exact cx
            have hb7 := bw_call hbA b7
            clear hwx cx wx hne d0 d1 d2 f0 f1 f2 HA HO
            go_wp2_with fail
            go_ret
            exact ⟨ret_bool HV.out.symm, hb7⟩
          · have HO : ∀ q : BelowOf w6, Calls Try.prog 141 #[.agg #[.int .i64 qf, .int .i64 qc, .int .i64 qp], .agg #[.int .i64 f, .int .i64 c, .int .i64 p]] q.w' fun e w' => e = .returned (.bool false) ∧ Below q.w'.heap.size q.w' w' := fun q => by
              have h := implRun_on qf qc qp f c p q.w' (by omega)
              rwa [show (decide (qf + qc = f) && decide (qp + qc = p)) = false by simpa using h2] at h
            have HV : Hid _ := HYES.out ((runOk_iff e _ f c p).2 ⟨by omega, by omega, by omega, by omega, by omega, by omega, fun q hq h => by rw [hpq] at hq; cases hq; simp only at h; omega⟩)
            clear HYES HNO HPVB HPREV HK0 hpq
            go_wp2_with fail
            refine wp_region_of (by kernel_rfl) (by kernel_rfl) ?_
            repeat (go_big_quiet_step ((first | (go_at_call 142; exact calls_of (HA _)) | (go_at_call 141; exact calls_of (HO _)) | rfl)))
            refine wpQuiet_nil ?_
            intro w7 hw7
            obtain ⟨⟨wx, cx⟩, hwx⟩ := hw7
            have b7 : Below w6.heap.size w6 w7 := by rw [hwx]; exact cx
            have hb7 := bw_call hbA b7
            clear hwx cx wx hne d0 d1 d2 f0 f1 f2 HA HO
            go_wp2_with fail
            go_roundw
            case rel => exact ⟨k' + 1 + 1, f + c, by omega, by go_num, fun h => by omega, HV.out, HRR.out, hb7⟩
            case measure => simp [intOf]; omega
        · have HA : ∀ q : BelowOf w6, Calls Try.prog 142 #[.agg #[.int .i64 qf, .int .i64 qc, .int .i64 qp], .agg #[.int .i64 f, .int .i64 c, .int .i64 p]] q.w' fun e w' => e = .returned (.bool false) ∧ Below q.w'.heap.size q.w' w' := fun q => by have h := implRun_ahead qf qc qp f c p q.w' (by omega); rwa [decide_eq_false h1] at h
          have HV : Hid _ := HNO.out (runOk_false e _ f c p (fun h => by omega))
          clear HYES HNO HPVB HPREV HK0 hpq
          go_wp2_with fail
          refine wp_region_of (by kernel_rfl) (by kernel_rfl) ?_
          repeat (go_big_quiet_step ((first | (go_at_call 142; exact calls_of (HA _)) | rfl)))
          refine wpQuiet_nil ?_
          intro w7 hw7
          obtain ⟨⟨wx, cx⟩, hwx⟩ := hw7
          have b7 : Below w6.heap.size w6 w7 := by rw [hwx]; exact cx
          have hb7 := bw_call hbA b7
          clear hwx cx wx hne d0 d1 d2 f0 f1 f2 HA
          go_wp2_with fail
          go_ret
          exact ⟨ret_bool HV.out.symm, hb7⟩
    · have hl : rs.drop k = [] := List.drop_of_length_le (by omega)
      have hv : okFrom 0 none rs = true := by rw [hok, hl]; rfl
      have HV : Hid _ := hv
      clear hl hv hok
      go_wp2_with fail
      go_ret
      exact ⟨ret_bool HV.out.symm, hb⟩

theorem implMapOk_any (v : Value) (rs : List (Int × Int × Int)) (w : World) (hfit : FitRuns rs) (r : ReadsR 3 runC w.heap.size w v rs) :
    Calls Try.prog 112 #[v] w fun e w' => e = .returned (.bool (mapOk rs)) ∧ Below w.heap.size w w' := by
  have r0 := r
  obtain ⟨o, cap, rfl, hm, hc, -⟩ := r
  unfold maxLen at hm
  clear hc
  by_cases hl : rs.length ≤ 16
  · have HV : Hid (okFrom 0 none rs = mapOk rs) := by rw [Hid, mapOk, decide_eq_true hl, Bool.and_true]
    have hl2 : (rs.length : Int) ≤ 16 := by omega
    go_enter Try.func112, Try.ntmps112
    go_wp2_with fail
    refine (listRight_any _ rs _ hfit r0).mono ?_
    rintro e w1 ⟨rfl, b1⟩
    go_wp2_with fail
    go_ret
    exact ⟨ret_bool HV.out, b1⟩
  · have HV : Hid (mapOk rs = false) := by rw [Hid, mapOk, decide_eq_false hl, Bool.and_false]
    have hl2 : ¬ (rs.length : Int) ≤ 16 := by omega
    go_enter Try.func112, Try.ntmps112
    go_wp2_with fail
    go_ret
    exact ⟨ret_bool HV.out.symm, Below.refl _ _⟩
end Go.Proofs.Ytkjdfgjmkomcgaa

namespace Go.Proofs.Ytkjdfgjmkomcgaa
open Go.RowKit

set_option linter.unusedVariables false

set_option maxRecDepth 100000


theorem wpList_load_arr {P : Program} {w : World} {ops : Array Oper} {rest : List Oper} {o : Oper} {a : Act} {Q : Exit → Act → World → Prop} (hgd : o.guard = none) (p : Operand) (t : TypeId) (ho : o.op = .load t p)
    (g : Nat) (hp : a.eval p = .pointer (some ⟨g, 0, none⟩)) (cs : Array Value) (ty : TypeId) (fr : Nat × Nat) (hg : w.heap[g]? = some (.cells cs ty fr)) (d : TypeDesc) (hu : P.underlying t = some d)
    (hd : (match d with | .struct _ | .array _ _ => true | _ => false) = true) (hi : (P.info? t).map (·.size) = some cs.size)
    (h : wpList P ops Q rest (a.put o.dst (.agg cs)) w) : wpList P ops Q (o :: rest) a w :=
  wpList_plain hgd fun K hK => by
    have hKK := hK _ _ h
    have hr := run_loadVar_row (P := P) w g ty t cs fr d hg hu hd hi
    unfold Oper.wp execOp
    simp only [ho, hp, Instr.loadAt, Instr.sureAddr, Sem.run_bind, Sem.run_pure, Result.andThen_ok, hr]
    exact hKK

theorem wpList_store_arr {P : Program} {w : World} {ops : Array Oper} {rest : List Oper} {o : Oper} {a : Act} {Q : Exit → Act → World → Prop} (hgd : o.guard = none) (p x : Operand) (t : TypeId) (ho : o.op = .store t p x)
    (g : Nat) (hp : a.eval p = .pointer (some ⟨g, 0, none⟩)) (cs : Array Value) (hx : a.eval x = .agg cs) (old : Array Value) (ty : TypeId) (hg : w.heap[g]? = some (.cells old ty (0, 0)))
    (hi : (P.info? t).map (·.size) = some cs.size) (hs : old.size = cs.size) (h1 : cs.all (·.oneCell') = true)
    (h : wpList P ops Q rest (a.put o.dst undef) (w.setRow g cs)) : wpList P ops Q (o :: rest) a w :=
  wpList_plain hgd fun K hK => by
    have hKK := hK _ _ h
    have hr := run_storeVar_row (P := P) w g ty t old cs hg hi hs h1
    unfold Oper.wp execOp
    simp only [ho, hp, hx, Instr.storeAt, Instr.sureAddr, Sem.run_bind, Sem.run_pure, Result.andThen_ok, hr]
    exact hKK

theorem setRow_row {w : World} {g : Nat} {old cs : Array Value} {ty : TypeId} {fr : Nat × Nat} (hg : w.heap[g]? = some (.cells old ty fr)) : (w.setRow g cs).heap[g]? = some (.cells cs ty fr) := by
  simp only [World.setRow, Array.getElem?_modify, hg, if_true]
  rfl

theorem setRow_below {w : World} {g B : Nat} {cs : Array Value} (h : B ≤ g) : Below B w (w.setRow g cs) := by
  refine ⟨rfl, rfl, rfl, by simp [World.setRow], fun k hk => ?_⟩
  simp only [World.setRow, Array.getElem?_modify]
  rw [if_neg (by omega)]

/-- The cells of a row that fills its block. -/
theorem own_cells {w : World} {base g n : Nat} {e : TypeId} {xs : List Value} (h : w.ownsRow base e 1 (.slice (some ⟨g, 0, none⟩) n n) n xs) : ∃ cur : Array Value, w.heap[g]? = some (.cells cur e (0, 0)) ∧ cur.toList = xs := by
  rcases h.2 with ⟨h', _⟩ | ⟨g', cap', cur, h', _, hg, _, _, hs, ht⟩
  · simp at h'
  · simp only [Value.slice.injEq, Option.some.injEq, Addr.mk.injEq, and_true, true_and] at h'
    obtain ⟨rfl, rfl⟩ := h'
    refine ⟨cur, hg, ?_⟩
    rw [← ht, List.take_of_length_le]
    rw [Array.length_toList, hs]
    exact Nat.le_refl _

theorem one_cells (xs : List Int) (c : Array Value) (h : c.toList = xs.map (Value.int .i64)) : c.all (·.oneCell') = true := by
  rw [Array.all_eq_true_iff_forall_mem]
  intro u hu
  have : u ∈ c.toList := by simpa using hu
  rw [h] at this
  obtain ⟨x, _, rfl⟩ := List.mem_map.1 this
  rfl
end Go.Proofs.Ytkjdfgjmkomcgaa

namespace Go.Proofs.Ytkjdfgjmkomcgaa
open Go.RowKit

set_option linter.unusedVariables false

set_option maxRecDepth 100000


def negs (k : Nat) : List Int := List.replicate k (-1) ++ List.replicate (16 - k) 0

theorem negs_step (k : Nat) (h : k < 16) : (negs k).set k (-1) = negs (k + 1) := by
  have h16 : k = 0 ∨ k = 1 ∨ k = 2 ∨ k = 3 ∨ k = 4 ∨ k = 5 ∨ k = 6 ∨ k = 7 ∨ k = 8 ∨ k = 9 ∨ k = 10 ∨ k = 11 ∨ k = 12 ∨ k = 13 ∨ k = 14 ∨ k = 15 := by omega
  rcases h16 with rfl | rfl | rfl | rfl | rfl | rfl | rfl | rfl | rfl | rfl | rfl | rfl | rfl | rfl | rfl | rfl <;> rfl

def zeros16 : Array Value := #[.int .i64 0, .int .i64 0, .int .i64 0, .int .i64 0, .int .i64 0, .int .i64 0, .int .i64 0, .int .i64 0, .int .i64 0, .int .i64 0, .int .i64 0, .int .i64 0, .int .i64 0, .int .i64 0, .int .i64 0, .int .i64 0]

theorem negs_length (k : Nat) (h : k ≤ 16) : (negs k).length = 16 := by simp [negs]; omega

theorem info16 : (Try.prog.info? 149).map (·.size) = some 16 := by kernel_rfl

set_option maxHeartbeats 3200000 in
theorem pageByPlace_any (v : Value) (rs : List (Int × Int × Int)) (w : World) (hok : mapOk rs = true) (r : ReadsR 3 runC w.heap.size w v rs) :
    Calls Try.prog 121 #[v] w fun e w' => ∃ c : Array Value, e = .returned (.agg c) ∧ c.toList = (pages rs).map (Value.int .i64) ∧ Below w.heap.size w w' := by
  obtain ⟨o, cap, rfl, hm, hc, -⟩ := r
  have HC : Hid _ := three_cells hc
  have HM : Hid _ := okFrom_mem rs 0 none (mapOk_from hok) (by omega)
  unfold maxLen at hm
  clear hc hok
  go_enter Try.func121, Try.ntmps121
  go_wp2_with fail
  have own0 : ((w.alloc (.cells zeros16 149)).alloc (.cells zeros16 149)).ownsRow (w.heap.size + 1) 149 1 (.slice (some ⟨w.heap.size + 1, 0, none⟩) 16 16) 16 ((negs 0).map (Value.int .i64)) := by
    have h := World.ownsRow_lit (e := 149) (size := 1) (base := w.heap.size + 1) (w.alloc (.cells zeros16 149)) zeros16 16 (by simp) (by unfold maxLen; omega) rfl
    have e0 : (w.alloc (.cells zeros16 149)).heap.size = w.heap.size + 1 := by simp
    rw [e0] at h
    exact h
  have k0 : ((w.alloc (.cells zeros16 149)).alloc (.cells zeros16 149)).heap[w.heap.size]? = some (.cells zeros16 149 (0, 0)) :=
    ((bw_alloc (o := .cells zeros16 149) (Below.refl (w.alloc (.cells zeros16 149)).heap.size (w.alloc (.cells zeros16 149)))).block w.heap.size (by simp)).trans (heap_alloc_new w _)
  have d0 : Below w.heap.size w ((w.alloc (.cells zeros16 149)).alloc (.cells zeros16 149)) := bw_alloc (bw_alloc (Below.refl _ _))
  go_loopw [9] (fun i wr => ∃ (k : Nat), k ≤ 16 ∧ i = .int .i64 k ∧ wr.ownsRow (w.heap.size + 1) 149 1 (.slice (some ⟨w.heap.size + 1, 0, none⟩) 16 16) 16 ((negs k).map (Value.int .i64)) ∧ wr.heap[w.heap.size]? = some (.cells zeros16 149 (0, 0)) ∧ Below w.heap.size w wr) (fun i _ => 16 - (intOf i).toNat)
  case atStart => exact ⟨0, Nat.zero_le _, rfl, own0, k0, d0⟩
  case round =>
    clear own0 k0 d0
    obtain ⟨k, hk, rfl, own, kA, hb⟩ := hrel
    by_cases hlt : k < 16
    · have hk1 : (k : Int) < 16 := by omega
      have hk0 : (0 : Int) ≤ (k : Int) := by omega
      have t0 := own.cellAt k (by omega)
      have t1 := own.frozenAt k
      have hnl := negs_length k hk
      rw [List.getElem?_map, List.getElem?_eq_getElem (show k < (negs k).length by omega)] at t0
      simp only [Option.map_some] at t0
      obtain ⟨hst, hgr⟩ := own.stored k (.int .i64 (-1))
      rw [← List.map_set, negs_step k hlt] at hst
      have kA' := (hgr.block w.heap.size (heap_lt kA) (by simp)).trans kA
      have hbf : Below w.heap.size w (wr.setCell ⟨w.heap.size + 1, k, none⟩ (.int .i64 (-1))) := bw_set (p := ⟨w.heap.size + 1, k, none⟩) hb (by simp) _
      have HO : Hid _ := And.intro hst (And.intro kA' hbf)
      generalize (negs k)[k] = y at t0
      clear hst hgr kA' hbf own hnl kA
      go_wp2_with fail
      go_roundw
      case rel => exact ⟨k + 1, by omega, by go_num, HO.out.1, HO.out.2.1, HO.out.2.2⟩
      case measure => simp [intOf]; omega
    · obtain rfl : k = 16 := by omega
      have e16 : negs 16 = none16 := rfl
      rw [e16] at own
      go_wp2_with fail
      go_loopw [17] (fun i wr2 => ∃ (q : Nat), q ≤ rs.length ∧ i = .int .i64 q ∧ wr2.ownsRow (w.heap.size + 1) 149 1 (.slice (some ⟨w.heap.size + 1, 0, none⟩) 16 16) 16 (((rs.take q).foldl layRun none16).map (Value.int .i64)) ∧ wr2.heap[w.heap.size]? = some (.cells zeros16 149 (0, 0)) ∧ Below w.heap.size w wr2) (fun i _ => rs.length - (intOf i).toNat)
      case atStart => exact ⟨0, Nat.zero_le _, rfl, own, kA, hb⟩
      case round =>
        clear own hb kA
        obtain ⟨q, hq, rfl, own, kA, hb⟩ := hrel
        by_cases hlt2 : q < rs.length
        · obtain ⟨g1, off, rfl, hg1, a0, a1, a2⟩ := HC.out q hlt2
          have hr := HM.out rs[q] (List.getElem_mem hlt2)
          have HTF : Hid _ := take_fold rs q hlt2
          have hl16 : ((rs.take q).foldl layRun none16).length = 16 := by rw [foldl_length]; rfl
          generalize (rs.take q).foldl layRun none16 = L at own HTF hl16
          generalize rs[q] = x at a0 a1 a2 hr HTF
          obtain ⟨f, c, p⟩ := x
          simp only at a0 a1 a2 hr
          obtain ⟨F, rfl⟩ := Int.eq_ofNat_of_zero_le hr.1
          obtain ⟨C, rfl⟩ := Int.eq_ofNat_of_zero_le (show 0 ≤ c by omega)
          have HL : Hid (L.length = 16) := hl16
          replace a0 := (hb.cell (p := ⟨g1, off + q * 3, none⟩) hg1).trans a0
          replace a1 := (hb.cell (p := ⟨g1, off + q * 3 + 1, none⟩) hg1).trans a1
          replace a2 := (hb.cell (p := ⟨g1, off + q * 3 + 2, none⟩) hg1).trans a2
          have own2 : (wr.alloc (.cells #[.int .i64 (F : Int), .int .i64 (C : Int), .int .i64 p] 106)).ownsRow (w.heap.size + 1) 149 1 (.slice (some ⟨w.heap.size + 1, 0, none⟩) 16 16) 16 ((lay L F p 0).map (Value.int .i64)) := own.alloc _
          have bsz := (own.lt (w.heap.size + 1) rfl).2
          have kA2 := (Below.block (bw_alloc (o := .cells #[.int .i64 (F : Int), .int .i64 (C : Int), .int .i64 p] 106) (Below.refl wr.heap.size wr)) _ (heap_lt kA)).trans kA
          have kB2 := heap_alloc_new wr (.cells #[.int .i64 (F : Int), .int .i64 (C : Int), .int .i64 p] 106)
          have hb2 : Below w.heap.size w (wr.alloc (.cells #[.int .i64 (F : Int), .int .i64 (C : Int), .int .i64 p] 106)) := bw_alloc hb
          have hbB : w.heap.size + 1 < wr.heap.size := bsz
          clear hl16 own kA hb
          go_wp2_with fail
          generalize wr.alloc (.cells #[.int .i64 (F : Int), .int .i64 (C : Int), .int .i64 p] 106) = W5 at *
          generalize wr.heap.size = nB at *
          go_loopw [23] (fun i wr3 => ∃ (k : Nat), k ≤ C ∧ i = .int .i64 k ∧ wr3.ownsRow (w.heap.size + 1) 149 1 (.slice (some ⟨w.heap.size + 1, 0, none⟩) 16 16) 16 ((lay L F p k).map (Value.int .i64)) ∧ wr3.heap[w.heap.size]? = some (.cells zeros16 149 (0, 0)) ∧ wr3.heap[nB]? = some (.cells #[.int .i64 (F : Int), .int .i64 (C : Int), .int .i64 p] 106 (0, 0)) ∧ Below w.heap.size w wr3) (fun i _ => C - (intOf i).toNat)
          case atStart => exact ⟨0, Nat.zero_le _, rfl, own2, kA2, kB2, hb2⟩
          case round =>
            clear own2 kA2 kB2 hb2
            obtain ⟨k, hk2, rfl, own, kA, kB, hb⟩ := hrel
            by_cases hlt3 : k < C
            · have hll : (lay L F p k).length = 16 := by rw [lay_length]; exact HL.out
              have t0 := own.cellAt (F + k) (by omega)
              have t1 := own.frozenAt (F + k)
              rw [List.getElem?_map, List.getElem?_eq_getElem (show F + k < (lay L F p k).length by omega)] at t0
              simp only [Option.map_some] at t0
              obtain ⟨hst, hgr⟩ := own.stored (F + k) (.int .i64 (p + k))
              rw [← List.map_set] at hst
              have kA' := (hgr.block w.heap.size (heap_lt kA) (by simp)).trans kA
              have kB' := (hgr.block nB (heap_lt kB) (by simp; omega)).trans kB
              have hbf : Below w.heap.size w (wr.setCell ⟨w.heap.size + 1, F + k, none⟩ (.int .i64 (p + k))) := bw_set (p := ⟨w.heap.size + 1, F + k, none⟩) hb (by simp) _
              have HO : Hid _ := And.intro hst (And.intro kA' (And.intro kB' hbf))
              have b0 := at_cell kB 0
              have b1 := at_cell kB 1
              have b2 := at_cell kB 2
              generalize (lay L F p k)[F + k] = y at t0
              clear hst hgr kA' kB' hbf own hll kA kB
              have hi0 : (0 : Int) ≤ (F : Int) + (k : Int) := by omega
              have hi1 : (F : Int) + (k : Int) < 16 := by omega
              have hw1 : IntKind.i64.wrap ((F : Int) + (k : Int)) = (F : Int) + (k : Int) := by rw [IntKind.wrap_i64]; omega
              have hw2 : IntKind.i64.wrap (p + (k : Int)) = p + (k : Int) := by rw [IntKind.wrap_i64]; omega
              have hw3 : ((F : Int) + (k : Int)).toNat = F + k := by omega
              go_wp2_with fail
              go_roundw
              case rel => exact ⟨k + 1, by omega, by go_num, HO.out.1, HO.out.2.1, HO.out.2.2.1, HO.out.2.2.2⟩
              case measure => simp [intOf]; omega
            · obtain rfl : k = C := by omega
              have e2 : ((rs.take (q + 1)).foldl layRun none16) = lay L F p k := by rw [HTF.out]; rfl
              rw [← e2] at own
              have HO : Hid _ := own
              clear own e2
              go_wp2_with fail
              go_roundw
              case rel => exact ⟨q + 1, by omega, by go_num, HO.out, kA, hb⟩
              case measure => simp [intOf]; omega
        · have hfin : rs.take q = rs := List.take_of_length_le (by omega)
          rw [hfin] at own
          obtain ⟨cur, hcur, hcl⟩ := own_cells own
          have hcs : cur.size = 16 := by rw [← Array.length_toList, hcl, List.length_map]; exact pages_length rs
          have HCL : Hid (cur.toList = (pages rs).map (Value.int .i64)) := hcl
          have H1 : Hid (cur.all (·.oneCell') = true) := one_cells _ cur hcl
          have HI : Hid ((Try.prog.info? 149).map (·.size) = some cur.size) := by rw [hcs]; exact info16
          have HZ : Hid (zeros16.size = cur.size) := by rw [hcs]; rfl
          have HCUR : Hid _ := hcur
          have HKA : Hid _ := kA
          have hbS : Below w.heap.size w (wr.setRow w.heap.size cur) := hb.trans (setRow_below (Nat.le_refl _))
          have hrow := setRow_row (cs := cur) kA
          have HLD : Hid _ := run_loadVar_row (P := Try.prog) _ w.heap.size 149 149 cur (0, 0) _ hrow Try.underlying149 rfl HI.out
          clear own hfin hcur hcl kA hcs hrow
          go_wp2_with (first | (with_reducible refine wpList_load_arr rfl _ 149 rfl (w.heap.size + 1) rfl cur 149 (0, 0) HCUR.out _ Try.underlying149 rfl HI.out ?_) | (with_reducible refine wpList_store_arr rfl _ _ 149 rfl w.heap.size rfl cur rfl zeros16 149 HKA.out HI.out HZ.out H1.out ?_))
          refine bodyPost_ret (v := .agg cur) ?_ rfl ⟨cur, rfl, HCL.out, hbS⟩
          simp [results, Try.results121, asAddr, Act.put, HLD.out]
end Go.Proofs.Ytkjdfgjmkomcgaa

namespace Go.Proofs.Ytkjdfgjmkomcgaa
open Go.RowKit

set_option linter.unusedVariables false

set_option maxRecDepth 100000


/-- The page of a place, out of an array by value. -/
theorem arr_at (L : List Int) (c : Array Value) (h : c.toList = L.map (Value.int .i64)) (k : Nat) (hk : k < L.length) : c[k]? = some (.int .i64 (L.getD k 0)) := by
  rw [← Array.getElem?_toList, h, List.getElem?_map, List.getElem?_eq_getElem hk, List.getD_eq_getElem?_getD, List.getElem?_eq_getElem hk]
  rfl

theorem arr_size (L : List Int) (c : Array Value) (h : c.toList = L.map (Value.int .i64)) : c.size = L.length := by rw [← Array.length_toList, h, List.length_map]

theorem index16 (c : Array Value) (k : Nat) (y : Int) (hk : k < 16) (hck : c[k]? = some (.int .i64 y)) (w : World) : (Instr.index 149 (.agg c) (.int .i64 (k : Int))).run Try.prog w = .ok (.int .i64 y) w := by
  simp [Instr.index, part, go_sem, hck]
  intro h
  exact absurd hk (by omega)

set_option maxHeartbeats 800000 in
theorem implPageOf_any (v : Value) (rs : List (Int × Int × Int)) (place : Int) (w : World) (hfit : FitRuns rs) (r : ReadsR 3 runC w.heap.size w v rs) :
    Calls Try.prog 106 #[v, .int .i64 place] w fun e w' => e = .returned (.int .i64 (pageOf rs place)) ∧ Below w.heap.size w w' := by
  go_enter Try.func106, Try.ntmps106
  go_wp2_with fail
  refine (implMapOk_any v rs _ hfit r).mono ?_
  rintro e w1 ⟨rfl, b1⟩
  have r1 := (r.below b1).mono b1.size
  cases hok : mapOk rs
  · have HV : Hid (pageOf rs place = -1) := by rw [Hid, pageOf, if_neg (fun q => by rw [hok] at q; cases q.1)]
    go_wp2_with fail
    go_ret
    exact ⟨ret_int HV.out.symm, b1⟩
  · have HOK : Hid (mapOk rs = true) := hok
    clear hok
    go_wp2_with fail
    refine (placeOk_any place _).mono ?_
    rintro e w2 ⟨rfl, rfl⟩
    cases hp : (decide ((0 : Int) ≤ place) && decide (place ≤ 15))
    · have HV : Hid (pageOf rs place = -1) := by
        rw [Hid, pageOf, if_neg]
        rintro ⟨_, h1, h2⟩
        simp [h1, h2] at hp
      go_wp2_with fail
      go_ret
      exact ⟨ret_int HV.out.symm, b1⟩
    · have hp2 : 0 ≤ place ∧ place ≤ 15 := by simpa using hp
      have hv : pageOf rs place = (pages rs).getD place.toNat 0 := by rw [pageOf, if_pos ⟨HOK.out, hp2⟩]
      obtain ⟨k, rfl⟩ := Int.eq_ofNat_of_zero_le hp2.1
      rw [Int.toNat_natCast] at hv
      have HV : Hid _ := hv
      clear hv
      go_wp2_with fail
      refine (pageByPlace_any v rs _ HOK.out r1).mono ?_
      rintro e w3 ⟨c, rfl, hcl, b3⟩
      have hpl := pages_length rs
      have hck := arr_at (pages rs) c hcl k (by omega)
      have hcs := arr_size (pages rs) c hcl
      rw [hpl] at hcs
      have hix := fun w => index16 c k _ (by omega) hck w
      clear hcl hpl hck
      generalize (pages rs).getD k 0 = y at hix HV
      have h0 : (0 : Int) ≤ (k : Int) := by omega
      have h1 : (k : Int) < 16 := by omega
      have bf := bw_call b1 b3
      go_wp2_with fail
      go_ret
      exact ⟨ret_int HV.out.symm, bf⟩
end Go.Proofs.Ytkjdfgjmkomcgaa

namespace Go.Proofs.Ytkjdfgjmkomcgaa
open Go.RowKit

set_option linter.unusedVariables false

set_option maxRecDepth 100000


/-- A row of books that is not empty: where it lies. -/
theorem OwnB.at {base : Nat} {w : World} {vb : Value} {bks : List Bk} (h : OwnB base w vb bks) (i : Nat) (hi : i < bks.length) : ∃ g cap, vb = .slice (some ⟨g, 0, none⟩) bks.length cap := by
  obtain ⟨n, hn1⟩ : ∃ n, bks.length = n + 1 := ⟨bks.length - 1, by omega⟩
  have hr := h.row
  rw [hn1] at hr ⊢
  exact owns_form hr

set_option maxHeartbeats 3200000 in
theorem valueAt_any (base i : Nat) (place : Int) (v1 v2 vb : Value) (cs ps : List Int) (bks : List Bk) (w : World) (hi : i < bks.length) (hfit : FitRuns bks[i].rs) (hpg : pageOf bks[i].rs place < (ps.length : Int)) (hpm : -1 ≤ pageOf bks[i].rs place) (own : OwnS base w v1 v2 vb cs ps bks) :
    Calls Try.prog 73 #[.agg #[v1, v2, vb], .int .i64 i, .int .i64 place] w fun e w' => e = .returned (.int .i64 (if pageOf bks[i].rs place < 0 then 0 else ps.getD (pageOf bks[i].rs place).toNat 0)) ∧ Below w.heap.size w w' := by
  obtain ⟨o1, k1, o2, k2, ob, kb, rfl, rfl, rfl⟩ := own.forms
  obtain ⟨g, cap, hvb⟩ := own.b.at i hi
  cases hvb
  obtain ⟨W0, hW0, kA, d0, z0⟩ := box1 w #[.slice o1 cs.length k1, .slice o2 ps.length k2, .slice (some ⟨g, 0, none⟩) bks.length kb] 29
  have HW0 : Hid (W0 = _) := hW0
  have own0 := own.below d0
  have hmi := own0.b.maps _ (List.getElem_mem hi)
  obtain ⟨⟨a0, a1, a2, a3, a4⟩, -⟩ := own_five own0.b.row i hi
  have rp := own0.p.reads.p
  obtain ⟨x, hx⟩ : ∃ x, bks[i] = x := ⟨_, rfl⟩
  rw [hx] at hfit hpg hpm hmi a2 ⊢
  clear hx a0 a1 a3 a4
  obtain ⟨xn, xs, xm, xr, xf, xe⟩ := x
  simp only at hfit hpg hpm hmi a2 ⊢
  obtain ⟨om, cm, hxm⟩ := own_slice hmi
  subst hxm
  have rm := ReadsR.of_own runC_len hmi
  have pA := at_cell kA 2
  have i0 : (0 : Int) ≤ (i : Int) := by omega
  have i1 : (i : Int) < (bks.length : Int) := by omega
  rw [hW0] at pA a2
  clear hW0 z0 own own0 hmi
  go_enter Try.func73, Try.ntmps73
  go_wp2_with fail
  rw [← HW0.out]
  clear HW0 pA a2
  refine (implPageOf_any _ xr place _ hfit rm).mono ?_
  obtain ⟨p, hpp⟩ : ∃ p, pageOf xr place = p := ⟨_, rfl⟩
  have HPP : Hid (pageOf xr place = p) := hpp
  rw [hpp] at hpg hpm ⊢
  clear hpp
  rintro e w1 ⟨rfl, b1⟩
  replace kA := (b1.block _ (heap_lt kA)).trans kA
  have rp1 := (rp.below b1).mono b1.size
  replace d0 := bw_call d0 b1
  clear rm rp b1
  by_cases hp : p < 0
  · obtain rfl : p = -1 := by omega
    clear rp1 kA hp hpg hpm
    go_wp2_with fail
    go_ret
    any_goals (exfalso; have hq := HPP.out; omega)
    exact ⟨ret_int (by first | (rw [HPP.out]; rfl) | rfl | simp [HPP.out]), d0⟩
  · obtain ⟨k, rfl⟩ := Int.eq_ofNat_of_zero_le (show 0 ≤ p by omega)
    have hk : k < ps.length := by omega
    obtain ⟨_, _, e1, -, c1, -⟩ := rp1
    simp only [List.length_map] at e1
    cases e1
    obtain ⟨gp, off, hgp, -, cc⟩ := c1 k _ (getD_some ps k hk)
    subst hgp
    have q1 := at_cell kA 1
    have hne : ((k : Int) == -1) = false := by rw [beq_eq_false_iff_ne]; omega
    have j0 : (0 : Int) ≤ (k : Int) := by omega
    have j1 : (k : Int) < (ps.length : Int) := by omega
    clear c1 kA hp hpg hpm
    go_wp2_with fail
    all_goals first
      | (exfalso; have hq := HPP.out; omega)
      | (refine bodyPost_ret (v := .int .i64 (ps[k]'hk)) (by first | simp [results, Try.results73, go_sem] | rfl) rfl ⟨ret_int ?_, d0⟩
         have hq := HPP.out
         simp [hq, hk])
end Go.Proofs.Ytkjdfgjmkomcgaa

namespace Go.Proofs.Ytkjdfgjmkomcgaa
open Go.RowKit

set_option linter.unusedVariables false

set_option maxRecDepth 100000

set_option maxHeartbeats 1600000 in
theorem eqPlain_same (nm : ByteArray) (sz : Int) (m m' : Value) (rs : List Int) (fx : Bool) (ep : Int) (w : World) (r : ReadsR 1 intC w.heap.size w m rs) (r' : ReadsR 1 intC w.heap.size w m' rs) :
    Calls Try.prog 44 #[.agg #[.string nm, .int .i64 sz, m, .bool fx, .int .i64 ep], .agg #[.string nm, .int .i64 sz, m', .bool fx, .int .i64 ep]] w fun e w' => e = .returned (.bool true) ∧ Below w.heap.size w w' := by
  obtain ⟨o, cap, rfl⟩ := r.form
  obtain ⟨o', cap', rfl⟩ := r'.form
  obtain ⟨W0, hW0, k0, k1, d0, z0⟩ := box2 w #[.string nm, .int .i64 sz, .slice o rs.length cap, .bool fx, .int .i64 ep] #[.string nm, .int .i64 sz, .slice o' rs.length cap', .bool fx, .int .i64 ep] 46 46
  have r0 := (r.below d0).mono d0.size
  have r1 := (r'.below d0).mono d0.size
  have HW0 : Hid (W0 = _) := hW0
  clear hW0 r r'
  go_enter Try.func44, Try.ntmps44
  go_wp2_with fail
  rw [← HW0.out]
  clear HW0
  refine (eqIntsK_any _ _ rs rs _ r0 r1).mono ?_
  rintro e w1 ⟨rfl, b⟩
  replace k0 := (b.block _ (by omega)).trans k0
  replace k1 := (b.block _ (by omega)).trans k1
  replace d0 := bw_call d0 b
  have p3 := at_cell k0 3
  have p4 := at_cell k0 4
  have q3 := at_cell k1 3
  have q4 := at_cell k1 4
  simp only [decide_true]
  clear r0 r1 b k0 k1
  cases fx
  · go_wp2_with fail
    go_ret
    exact ⟨rfl, d0⟩
  · go_wp2_with fail
    go_ret
    exact ⟨rfl, d0⟩
end Go.Proofs.Ytkjdfgjmkomcgaa

namespace Go.Proofs.Ytkjdfgjmkomcgaa
open Go.RowKit

set_option linter.unusedVariables false

set_option maxRecDepth 100000


/-- All of a book but where its map lies. -/
def bareK (b : Pk) : ByteArray × Int × List Int × Bool × Int := (b.nm, b.sz, b.rs, b.fx, b.ep)

theorem bare_len {bs ms : List Pk} (h : ms.map bareK = bs.map bareK) : ms.length = bs.length := by simpa using congrArg List.length h

theorem bare_at {bs ms : List Pk} (h : ms.map bareK = bs.map bareK) (k : Nat) (h1 : k < ms.length) (h2 : k < bs.length) : bareK ms[k] = bareK bs[k] := by
  have e : (ms.map bareK)[k]? = (bs.map bareK)[k]? := by rw [h]
  simpa [h1, h2] using e

/-- A book's five cells in a row. -/
theorem five_cellsK {B : Nat} {w : World} {o : Option Addr} {bs : List Pk} (hc : ∀ i x, bs[i]? = some x → ∃ g off, o = some ⟨g, off, none⟩ ∧ g < B ∧ ∀ j u, (pkC x)[j]? = some u → w.cell? ⟨g, off + i * 5 + j, none⟩ = some u) (i : Nat) (hi : i < bs.length) :
    ∃ g off, o = some ⟨g, off, none⟩ ∧ g < B ∧ w.cell? ⟨g, off + i * 5, none⟩ = some (.string bs[i].nm) ∧ w.cell? ⟨g, off + i * 5 + 1, none⟩ = some (.int .i64 bs[i].sz) ∧ w.cell? ⟨g, off + i * 5 + 2, none⟩ = some bs[i].m ∧ w.cell? ⟨g, off + i * 5 + 3, none⟩ = some (.bool bs[i].fx) ∧ w.cell? ⟨g, off + i * 5 + 4, none⟩ = some (.int .i64 bs[i].ep) := by
  obtain ⟨g, off, e, hg, hx⟩ := hc i bs[i] (List.getElem?_eq_getElem hi)
  exact ⟨g, off, e, hg, hx 0 _ rfl, hx 1 _ rfl, hx 2 _ rfl, hx 3 _ rfl, hx 4 _ rfl⟩

theorem Try.infoPlain : (Try.prog.info? 46).map (fun i => (i.zero, i.size, i.bytes)) = some (some (.agg #[.string ByteArray.empty, .int .i64 0, .slice none 0 0, .bool false, .int .i64 0]), 5, 64) := by kernel_rfl

theorem own_fiveK {w : World} {base g n cap : Nat} {xs : List Pk} (h : w.ownsRow base 46 5 (.slice (some ⟨g, 0, none⟩) n cap) xs.length (xs.flatMap pkC)) (i : Nat) (hi : i < xs.length) :
    (w.cell? ⟨g, i * 5, none⟩ = some (.string xs[i].nm) ∧ w.cell? ⟨g, i * 5 + 1, none⟩ = some (.int .i64 xs[i].sz) ∧ w.cell? ⟨g, i * 5 + 2, none⟩ = some xs[i].m ∧ w.cell? ⟨g, i * 5 + 3, none⟩ = some (.bool xs[i].fx) ∧ w.cell? ⟨g, i * 5 + 4, none⟩ = some (.int .i64 xs[i].ep)) ∧ w.frozen? ⟨g, i * 5, none⟩ = false ∧ w.frozen? ⟨g, i * 5 + 1, none⟩ = false ∧ w.frozen? ⟨g, i * 5 + 2, none⟩ = false ∧ w.frozen? ⟨g, i * 5 + 3, none⟩ = false ∧ w.frozen? ⟨g, i * 5 + 4, none⟩ = false := by
  obtain ⟨a0, b0⟩ := own_cell pkC_len h i 0 _ (List.getElem?_eq_getElem hi) (by omega)
  obtain ⟨a1, b1⟩ := own_cell pkC_len h i 1 _ (List.getElem?_eq_getElem hi) (by omega)
  obtain ⟨a2, b2⟩ := own_cell pkC_len h i 2 _ (List.getElem?_eq_getElem hi) (by omega)
  obtain ⟨a3, b3⟩ := own_cell pkC_len h i 3 _ (List.getElem?_eq_getElem hi) (by omega)
  obtain ⟨a4, b4⟩ := own_cell pkC_len h i 4 _ (List.getElem?_eq_getElem hi) (by omega)
  exact ⟨⟨a0, a1, a2, a3, a4⟩, b0, b1, b2, b3, b4⟩

/-- A row of books of one's own: the row, and each map. -/
structure OwnK (base : Nat) (w : World) (v : Value) (bs : List Pk) : Prop where
  row : w.ownsRow base 46 5 v bs.length (bs.flatMap pkC)
  maps : ∀ b ∈ bs, w.ownsRow base 2 1 b.m b.rs.length (b.rs.flatMap intC)

theorem OwnK.reads {base : Nat} {w : World} {v : Value} {bs : List Pk} (h : OwnK base w v bs) : ReadsK w.heap.size w v bs := ⟨ReadsR.of_own pkC_len h.row, fun b hb => ReadsR.of_own intC_len (h.maps b hb)⟩

theorem OwnK.below {base : Nat} {w w' : World} {v : Value} {bs : List Pk} (h : OwnK base w v bs) (k : Below w.heap.size w w') : OwnK base w' v bs := ⟨owns_below h.row k, fun b hb => owns_below (h.maps b hb) k⟩

theorem OwnK.mono {base base' : Nat} {w : World} {v : Value} {bs : List Pk} (h : OwnK base w v bs) (k : base' ≤ base) : OwnK base' w v bs := ⟨owns_mono h.row k, fun b hb => owns_mono (h.maps b hb) k⟩

/-- No two maps lie in one block. -/
def ApartK (ms : List Pk) : Prop := ms.Pairwise (fun a b => ∀ g, a.m.ownBlock = some g → b.m.ownBlock ≠ some g)

theorem ApartK.snoc {ms : List Pk} (h : ApartK ms) (y : Pk) (hy : ∀ b ∈ ms, ∀ g, b.m.ownBlock = some g → y.m.ownBlock ≠ some g) : ApartK (ms ++ [y]) :=
  List.pairwise_append.2 ⟨h, List.pairwise_singleton _ _, fun a ha b hb => by simp only [List.mem_singleton] at hb; subst hb; exact hy a ha⟩
end Go.Proofs.Ytkjdfgjmkomcgaa

namespace Go.Proofs.Ytkjdfgjmkomcgaa
open Go.RowKit

set_option linter.unusedVariables false

set_option maxRecDepth 100000


set_option maxHeartbeats 3200000 in
theorem eqPlains_same (v v' : Value) (bs ms : List Pk) (w : World) (hp : ms.map bareK = bs.map bareK) (r : ReadsK w.heap.size w v bs) (r' : ReadsK w.heap.size w v' ms) :
    Calls Try.prog 18 #[v, v'] w fun e w' => e = .returned (.bool true) ∧ Below w.heap.size w w' := by
  have RM : Hid _ := r.maps
  have RM' : Hid _ := r'.maps
  have hl := bare_len hp
  have HP : Hid _ := hp
  obtain ⟨o1, cap1, rfl, m1, c1, -⟩ := r.row
  obtain ⟨o2, cap2, rfl, m2, c2, -⟩ := r'.row
  have C1 : Hid _ := five_cellsK c1
  have C2 : Hid _ := five_cellsK c2
  have HL : Hid (ms.length = bs.length) := hl
  rw [hl]
  unfold maxLen at m1
  clear c1 c2 m2 r r' hp hl
  go_enter Try.func18, Try.ntmps18
  go_wp2
  go_loopw [5] (fun i wr => ∃ k : Nat, k ≤ bs.length ∧ i = .int .i64 k ∧ Below w.heap.size w wr) (fun i _ => bs.length - (intOf i).toNat)
  case atStart => exact ⟨0, Nat.zero_le _, rfl, Below.refl _ _⟩
  case round =>
    obtain ⟨k, hk, rfl, hb⟩ := hrel
    by_cases hlt : k < bs.length
    · have hlt2 : k < ms.length := by have := HL.out; omega
      obtain ⟨g1, of1, rfl, q1, a0, a1, a2, a3, a4⟩ := C1.out k hlt
      obtain ⟨g2, of2, rfl, q2, b0, b1, b2, b3, b4⟩ := C2.out k hlt2
      have rm := (RM.out bs[k] (List.getElem_mem hlt)).below hb
      have rm' := (RM'.out ms[k] (List.getElem_mem hlt2)).below hb
      have hpk := bare_at HP.out k hlt2 hlt
      generalize bs[k] = x at a0 a1 a2 a3 a4 rm hpk
      generalize ms[k] = y at b0 b1 b2 b3 b4 rm' hpk
      obtain ⟨nm, sz, m, rs, fx, ep⟩ := x
      obtain ⟨nm', sz', m', rs', fx', ep'⟩ := y
      simp only [bareK, Prod.mk.injEq] at a0 a1 a2 a3 a4 b0 b1 b2 b3 b4 rm rm' hpk
      obtain ⟨rfl, rfl, rfl, rfl, rfl⟩ := hpk
      have hne := BelowOf.any wr
      have l1 : g1 < wr.heap.size := Nat.lt_of_lt_of_le q1 hb.size
      have l2 : g2 < wr.heap.size := Nat.lt_of_lt_of_le q2 hb.size
      have HEQ : ∀ q : BelowOf wr, Calls Try.prog 44 #[.agg #[.string nm', .int .i64 sz', m, .bool fx', .int .i64 ep'], .agg #[.string nm', .int .i64 sz', m', .bool fx', .int .i64 ep']] q.w' fun e w' => e = .returned (.bool true) ∧ Below q.w'.heap.size q.w' w' := fun q => eqPlain_same nm' sz' m m' rs' fx' ep' q.w' (rm.of hb.size q) (rm'.of hb.size q)
      have d0 := BelowOf.cell ((hb.cell (p := ⟨g1, of1 + k * 5, none⟩) q1).trans a0) l1
      have d1 := BelowOf.cell ((hb.cell (p := ⟨g1, of1 + k * 5 + 1, none⟩) q1).trans a1) l1
      have d2 := BelowOf.cell ((hb.cell (p := ⟨g1, of1 + k * 5 + 2, none⟩) q1).trans a2) l1
      have d3 := BelowOf.cell ((hb.cell (p := ⟨g1, of1 + k * 5 + 3, none⟩) q1).trans a3) l1
      have d4 := BelowOf.cell ((hb.cell (p := ⟨g1, of1 + k * 5 + 4, none⟩) q1).trans a4) l1
      have f0 := BelowOf.cell ((hb.cell (p := ⟨g2, of2 + k * 5, none⟩) q2).trans b0) l2
      have f1 := BelowOf.cell ((hb.cell (p := ⟨g2, of2 + k * 5 + 1, none⟩) q2).trans b1) l2
      have f2 := BelowOf.cell ((hb.cell (p := ⟨g2, of2 + k * 5 + 2, none⟩) q2).trans b2) l2
      have f3 := BelowOf.cell ((hb.cell (p := ⟨g2, of2 + k * 5 + 3, none⟩) q2).trans b3) l2
      have f4 := BelowOf.cell ((hb.cell (p := ⟨g2, of2 + k * 5 + 4, none⟩) q2).trans b4) l2
      have g1' : (0 : Int) ≤ (k : Int) := by omega
      have g2' : (k : Int) < (bs.length : Int) := by omega
      clear a0 a1 a2 a3 a4 b0 b1 b2 b3 b4 C1 C2 RM RM' rm rm' HP
      go_wp2_with fail
      refine wp_region_of (by kernel_rfl) (by kernel_rfl) ?_
      repeat (go_big_quiet_step ((first | (go_at_call 44; exact calls_of (HEQ _)) | rfl)))
      refine wpQuiet_nil ?_
      intro w5 hw5
      obtain ⟨⟨wx, cx⟩, hwx⟩ := hw5
      have b5 : Below wr.heap.size wr w5 := by rw [hwx]; exact cx
      have hb5 := hb.trans (b5.mono hb.size)
      clear hwx cx wx hne d0 d1 d2 d3 d4 f0 f1 f2 f3 f4 HEQ
      go_wp2_with fail
      go_roundw
      case rel => exact ⟨k + 1, by omega, by go_num, hb5⟩
      case measure => simp [intOf]; omega
    · go_wp2
      go_ret
      exact ⟨rfl, hb⟩
end Go.Proofs.Ytkjdfgjmkomcgaa

namespace Go.Proofs.Ytkjdfgjmkomcgaa
open Go.RowKit

set_option linter.unusedVariables false

set_option maxRecDepth 100000

set_option maxHeartbeats 1600000 in
theorem implPagesOf_any (v : Value) (rs : List (Int × Int × Int)) (w : World) (hfit : FitRuns rs) (r : ReadsR 3 runC w.heap.size w v rs) :
    Calls Try.prog 119 #[v] w fun e w' => ∃ v' : Value, e = .returned v' ∧ w'.ownsRow w.heap.size 2 1 v' (pagesOf rs).length ((pagesOf rs).map (Value.int .i64)) ∧ v' ≠ .slice none 0 0 ∧ Below w.heap.size w w' := by
  obtain ⟨i0, hi, hz0, hz1, hz2⟩ := info_parts Try.infoI64
  have own0 : (w.alloc (.cells #[] 2)).ownsRow w.heap.size 2 1 (.slice (some ⟨w.heap.size, 0, none⟩) 0 0) 0 [] := World.ownsRow_lit w #[] 0 (Nat.le_refl _) (Nat.zero_le _) rfl
  have d0 : Below w.heap.size w (w.alloc (.cells #[] 2)) := bw_alloc (Below.refl _ _)
  have r0 := (r.below d0).mono d0.size
  clear r
  go_enter Try.func119, Try.ntmps119
  go_wp2_with fail
  generalize w.alloc (.cells #[] 2) = W0 at *
  refine (implMapOk_any v rs _ hfit r0).mono ?_
  rintro e w1 ⟨rfl, b1⟩
  have r1 := (r0.below b1).mono b1.size
  have own1 := owns_below own0 b1
  have d1 := bw_call d0 b1
  clear own0 d0 r0 b1
  cases hok : mapOk rs
  · have HV : Hid (pagesOf rs = []) := by rw [Hid, pagesOf, if_neg (by rw [hok]; simp)]
    have HO : Hid (w1.ownsRow w.heap.size 2 1 (.slice (some ⟨w.heap.size, 0, none⟩) 0 0) 0 []) := own1
    clear r1 own1
    go_wp2_with fail
    go_ret
    exact ⟨.slice (some ⟨w.heap.size, 0, none⟩) 0 0, rfl, by rw [HV.out]; exact HO.out, by simp, d1⟩
  · have HV : Hid (pagesOf rs = (pages rs).filter (fun p => decide (0 ≤ p))) := by rw [Hid, pagesOf, if_pos hok]
    have HOK : Hid _ := hok
    have HPM : Hid (∀ j, j < 16 → -1 ≤ (pages rs).getD j 0) := fun j hj => (pages_range rs hok j hj).1
    clear hok
    go_wp2_with fail
    refine (pageByPlace_any v rs _ HOK.out r1).mono ?_
    rintro e w3 ⟨c, rfl, hcl, b3⟩
    have own3 := owns_below own1 b3
    have d3 := bw_call d1 b3
    have hpl := pages_length rs
    have HIX : Hid (∀ j : Nat, j < 16 → ∀ w : World, (Instr.index 149 (.agg c) (.int .i64 (j : Int))).run Try.prog w = .ok (.int .i64 ((pages rs).getD j 0)) w) := fun j hj w => index16 c j _ hj (arr_at (pages rs) c hcl j (by omega)) w
    obtain ⟨L, hL⟩ : ∃ L, pages rs = L := ⟨_, rfl⟩
    rw [hL] at HIX hpl HPM HV
    have HPL : Hid (L.length = 16) := hpl
    clear hL own1 d1 b3 hcl hpl r1
    go_wp2_with fail
    go_loopw [3, 13] (fun q i wr => ∃ (k b cq : Nat) (xs : List Int), k ≤ 16 ∧ i = .int .i64 k ∧ xs = (L.take k).filter (fun p => decide (0 ≤ p)) ∧ q = .slice (some ⟨b, 0, none⟩) xs.length cq ∧ wr.ownsRow w.heap.size 2 1 (.slice (some ⟨b, 0, none⟩) xs.length cq) xs.length (xs.map (Value.int .i64)) ∧ Below w.heap.size w wr) (fun _ i _ => 16 - (intOf i).toNat)
    case atStart => exact ⟨0, w.heap.size, 0, [], Nat.zero_le _, rfl, by simp, rfl, own3, d3⟩
    case round =>
      clear own3 d3
      obtain ⟨k, b, cq, xs, hk, rfl, hxs, rfl, own, hb⟩ := hrel
      by_cases hlt : k < 16
      · have hix := HIX.out k hlt
        have hpm := HPM.out k hlt
        have hxl : xs.length ≤ 16 := by
          rw [hxs]
          have h1 : ((L.take k).filter (fun p => decide (0 ≤ p))).length ≤ (L.take k).length := List.length_filter_le _ _
          rw [List.length_take] at h1
          omega
        have hft := filter_take L k (by have := HPL.out; omega)
        rw [← hxs] at hft
        have hgd : L.getD k 0 = L[k]'(by have := HPL.out; omega) := by rw [List.getD_eq_getElem?_getD, List.getElem?_eq_getElem (by have := HPL.out; omega)]; rfl
        rw [← hgd] at hft
        have HFT : Hid _ := hft
        clear hft hgd hxs
        generalize L.getD k 0 = z at hix HFT hpm
        have h0 : (0 : Int) ≤ (k : Int) := by omega
        have h1 : (k : Int) < 16 := by omega
        by_cases hz : 0 ≤ z
        · have HN : Hid (xs ++ [z] = (L.take (k + 1)).filter (fun p => decide (0 ≤ p))) := by rw [Hid, HFT.out, if_pos hz]
          have hzb : (z != -1) = true := by rw [bne_iff_ne]; omega
          go_wp2_with (at_builtin; refine wpList_append_own _ rfl _ _ 24 rfl w.heap.size 2 i0 (.int .i64 0) 1 8 Try.underlying24 hi hz0 hz1 hz2 rfl (by decide) _ _ _ rfl (own.alloc _) ⟨wr.heap.size, 0, none⟩ 1 1 [.int .i64 z] rfl rfl ?c1 ?c2 ?c3 ?c4 ?c5 ?_)
          case c1 => exact new_one _ _ _
          case c2 => intro u hu; simp at hu; subst hu; rfl
          case c3 => unfold maxLen; omega
          case c4 => omega
          case c5 => have := hb.size; simp; omega
          intro v' w4 hown' hgrow hnil
          have own4 : w4.ownsRow w.heap.size 2 1 v' (xs ++ [z]).length ((xs ++ [z]).map (Value.int .i64)) := by simpa using hown'
          obtain ⟨b', cq', hv'⟩ : ∃ b' cq', v' = .slice (some ⟨b', 0, none⟩) (xs ++ [z]).length cq' := by
            rcases own4.2 with ⟨e, _⟩ | ⟨b', cq', _, e, _⟩
            · exact absurd e hnil
            · exact ⟨b', cq', e⟩
          have hb4 : Below w.heap.size w w4 := (bw_alloc hb).grown hgrow (by have := hb.size; simp; omega) (fun q hq => (own.lt q (by simpa [Value.ownBlock] using hq)).1)
          subst hv'
          have HO : Hid _ := And.intro own4 hb4
          clear hown' hgrow hnil own4 hb4 own
          go_wp2_with fail
          go_roundw
          case rel => exact ⟨k + 1, b', cq', xs ++ [z], by omega, by go_num, HN.out, by simp, HO.out.1, HO.out.2⟩
          case measure => simp [intOf]; omega
        · obtain rfl : z = -1 := by omega
          have HN : Hid (xs = (L.take (k + 1)).filter (fun p => decide (0 ≤ p))) := by rw [Hid, HFT.out, if_neg hz, List.append_nil]
          clear hz
          go_wp2_with fail
          go_roundw
          case rel => exact ⟨k + 1, b, cq, xs, by omega, by go_num, HN.out, rfl, own, hb⟩
          case measure => simp [intOf]; omega
      · obtain rfl : k = 16 := by omega
        have hfin : L.take 16 = L := List.take_of_length_le (by rw [HPL.out]; exact Nat.le_refl _)
        rw [hfin] at hxs
        have HXL : Hid (xs = L.filter (fun p => decide (0 ≤ p))) := hxs
        clear hxs hfin
        go_wp2_with fail
        go_ret
        rw [HV.out, ← HXL.out]
        exact ⟨_, rfl, own, by simp, hb⟩
end Go.Proofs.Ytkjdfgjmkomcgaa

namespace Go.Proofs.Ytkjdfgjmkomcgaa
open Go.RowKit

set_option linter.unusedVariables false

set_option maxRecDepth 100000


theorem sizeOk_any (x : Int) (w : World) :
    Calls Try.prog 111 #[.int .i64 x] w fun e w' => e = .returned (.bool (decide (1 ≤ x) && decide (x ≤ 16))) ∧ w' = w := by
  by_cases h : (1 : Int) ≤ x
  · go_enter Try.func111, Try.ntmps111
    go_wp2
    go_ret
    exact ⟨ret_bool (by simp [h]), rfl⟩
  · go_enter Try.func111, Try.ntmps111
    go_wp2
    go_ret
    exact ⟨ret_bool (by simp; omega), rfl⟩

theorem epochOk_any (x : Int) (w : World) :
    Calls Try.prog 114 #[.int .i64 x] w fun e w' => e = .returned (.bool (decide (0 ≤ x) && decide (x ≤ 1000))) ∧ w' = w := by
  by_cases h : (0 : Int) ≤ x
  · go_enter Try.func114, Try.ntmps114
    go_wp2
    go_ret
    exact ⟨ret_bool (by simp [h]), rfl⟩
  · go_enter Try.func114, Try.ntmps114
    go_wp2
    go_ret
    exact ⟨ret_bool (by simp; omega), rfl⟩

set_option maxHeartbeats 800000 in
theorem implEndsBy_any (v : Value) (rs : List (Int × Int × Int)) (sz : Int) (w : World) (hok : mapOk rs = true) (r : ReadsR 3 runC w.heap.size w v rs) :
    Calls Try.prog 113 #[v, .int .i64 sz] w fun e w' => e = .returned (.bool (endsBy rs sz)) ∧ Below w.heap.size w w' := by
  obtain ⟨o, cap, rfl, hm, hc, -⟩ := r
  rcases Nat.eq_zero_or_pos rs.length with h0 | hpos
  · have HE : Hid (endsBy rs sz = true) := by rw [Hid, List.length_eq_zero_iff.1 h0]; rfl
    rw [h0]
    clear hok hc h0 hm
    go_enter Try.func113, Try.ntmps113
    go_wp2_with fail
    go_ret
    exact ⟨ret_bool HE.out.symm, Below.refl _ _⟩
  · obtain ⟨k, hk⟩ : ∃ k, rs.length = k + 1 := ⟨rs.length - 1, by omega⟩
    have hlt : k < rs.length := by omega
    obtain ⟨g, off, rfl, hg, a0, a1, a2⟩ := three_cells hc k hlt
    have HE : Hid _ := endsBy_at rs sz k hk
    have hin := map_in rs hok k hlt
    generalize rs[k] = x at a0 a1 a2 HE hin
    obtain ⟨f, c, p⟩ := x
    simp only at a0 a1 a2 HE hin
    have hw1 : IntKind.i64.wrap ((k : Int) + 1 - 1) = k := by unfold maxLen at hm; rw [IntKind.wrap_i64]; omega
    have hw2 : (k : Int) + 1 - 1 = k := by omega
    have hw4 : IntKind.i64.wrap (k : Int) = k := by unfold maxLen at hm; rw [IntKind.wrap_i64]; omega
    have hw3 : IntKind.i64.wrap (f + c) = f + c := by rw [IntKind.wrap_i64]; omega
    have hi0 : (0 : Int) ≤ (k : Int) := by omega
    have hi1 : (k : Int) < (k : Int) + 1 := by omega
    have hz : ((k : Int) + 1 == 0) = false := by rw [beq_eq_false_iff_ne]; omega
    rw [hk]
    clear hok hc hpos hin hk
    go_enter Try.func113, Try.ntmps113
    go_wp2_with fail
    go_ret
    exact ⟨ret_bool (by rw [HE.out]), by go_grown⟩

set_option maxHeartbeats 1600000 in
theorem implBookOk_any (nm : ByteArray) (sz : Int) (m : Value) (rs : List (Int × Int × Int)) (fx : Bool) (ep : Int) (w : World) (hn : nm.size ≤ maxLen) (hfit : FitRuns rs) (r : ReadsR 3 runC w.heap.size w m rs) :
    Calls Try.prog 87 #[.agg #[.string nm, .int .i64 sz, m, .bool fx, .int .i64 ep]] w fun e w' => e = .returned (.bool (bookOk nm sz rs ep)) ∧ Below w.heap.size w w' := by
  obtain ⟨o, cap, rfl⟩ := r.form
  obtain ⟨W0, hW0, k0, d0, z0⟩ := box1 w #[.string nm, .int .i64 sz, .slice o rs.length cap, .bool fx, .int .i64 ep] 39
  have r0 := (r.below d0).mono d0.size
  have HW0 : Hid (W0 = _) := hW0
  have p0 := at_cell k0 0
  have p1 := at_cell k0 1
  have p2 := at_cell k0 2
  clear hW0 r
  go_enter Try.func87, Try.ntmps87
  go_wp2_with fail
  rw [← HW0.out]
  clear HW0
  refine (implName_any nm _ hn).mono ?_
  rintro e w' ⟨rfl, rfl⟩
  cases h1 : Nums.nameB nm.data.toList
  · have HV : Hid (bookOk nm sz rs ep = false) := by simp [Hid, bookOk, h1]
    clear h1 k0
    go_wp2_with fail
    go_ret
    exact ⟨ret_bool HV.out.symm, d0⟩
  have H1 : Hid _ := h1
  clear h1
  go_wp2_with fail
  refine (sizeOk_any sz _).mono ?_
  rintro e w' ⟨rfl, rfl⟩
  cases h2 : (decide (1 ≤ sz) && decide (sz ≤ 16))
  · have HV : Hid (bookOk nm sz rs ep = false) := by simp [Hid, bookOk, h2]
    clear h2 k0
    go_wp2_with fail
    go_ret
    exact ⟨ret_bool HV.out.symm, d0⟩
  have H2 : Hid _ := h2
  clear h2
  go_wp2_with fail
  refine (implMapOk_any _ rs _ hfit r0).mono ?_
  rintro e w1 ⟨rfl, b1⟩
  replace k0 := (b1.block _ (by omega)).trans k0
  replace d0 := bw_call d0 b1
  replace r0 := (r0.below b1).mono b1.size
  have z1 := b1.size
  clear p0 p1 p2 b1
  cases h4 : mapOk rs
  · have HV : Hid (bookOk nm sz rs ep = false) := by simp [Hid, bookOk, h4]
    clear h4 k0 r0
    go_wp2_with fail
    go_ret
    exact ⟨ret_bool HV.out.symm, d0⟩
  have p1 := at_cell k0 1
  have p2 := at_cell k0 2
  have H4 : Hid _ := h4
  clear h4
  go_wp2_with fail
  clear p1 p2
  refine (implEndsBy_any _ rs sz _ H4.out r0).mono ?_
  rintro e w2 ⟨rfl, b1⟩
  replace k0 := (b1.block _ (by omega)).trans k0
  replace d0 := bw_call d0 b1
  clear b1 r0
  cases h5 : endsBy rs sz
  · have HV : Hid (bookOk nm sz rs ep = false) := by simp [Hid, bookOk, h5]
    clear h5 k0
    go_wp2_with fail
    go_ret
    exact ⟨ret_bool HV.out.symm, d0⟩
  have HV : Hid (bookOk nm sz rs ep = (decide (0 ≤ ep) && decide (ep ≤ 1000))) := by rw [Hid, bookOk, H1.out, H2.out, H4.out, h5]; simp
  have p4 := at_cell k0 4
  clear h5 H1 H2 H4 k0
  go_wp2_with fail
  refine (epochOk_any ep _).mono ?_
  rintro e w' ⟨rfl, rfl⟩
  go_wp2_with fail
  go_ret
  exact ⟨ret_bool HV.out.symm, d0⟩
end Go.Proofs.Ytkjdfgjmkomcgaa

