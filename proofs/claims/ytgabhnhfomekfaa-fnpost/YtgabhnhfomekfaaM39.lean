/-
  Contracts and plain laws, one chapter behind the other.
-/
import Derived.Test.YtgabhnhfomekfaaM25
import Derived.Test.YtgabhnhfomekfaaM36
import Derived.Test.YtgabhnhfomekfaaM38
namespace Go.Proofs.Ytgabhnhfomekfaa
open Go.RowKit

set_option linter.unusedVariables false

set_option maxRecDepth 100000


theorem sizeEnt15 : (Try.prog.info? 34).map (·.size) = some 9 := by kernel_rfl

theorem same_store15 (kd ds vw sq cl tg k : Int) (nm ot : ByteArray) (at_ va ep s rc rv : Int) (w : World) (g : Nat) (hg : w.heap[g]? = some (.cells #[.int .i64 kd, .int .i64 ds, .int .i64 vw, .int .i64 sq, .int .i64 cl, .int .i64 tg, .int .i64 k, .string nm, .string ot, .int .i64 at_, .int .i64 va, .int .i64 ep, .int .i64 s, .int .i64 rc, .int .i64 rv] 38 (0, 0))) :
    (Instr.storeAt 34 (.pointer (some ⟨g, 3, none⟩)) (.agg #[.int .i64 sq, .int .i64 cl, .int .i64 tg, .int .i64 k, .string nm, .string ot, .int .i64 at_, .int .i64 va, .int .i64 ep])).run Try.prog w = .ok () w := by
  have h := run_storeCells_at (P := Try.prog) g 3 38 (#[.int .i64 sq, .int .i64 cl, .int .i64 tg, .int .i64 k, .string nm, .string ot, .int .i64 at_, .int .i64 va, .int .i64 ep] : Array Value).toList 0 #[.int .i64 kd, .int .i64 ds, .int .i64 vw, .int .i64 sq, .int .i64 cl, .int .i64 tg, .int .i64 k, .string nm, .string ot, .int .i64 at_, .int .i64 va, .int .i64 ep, .int .i64 s, .int .i64 rc, .int .i64 rv] w hg (by simp) (fun v hv => by
    simp only [List.mem_cons, List.not_mem_nil, or_false] at hv
    rcases hv with rfl | rfl | rfl | rfl | rfl | rfl | rfl | rfl | rfl <;> rfl)
  have e : ((#[.int .i64 kd, .int .i64 ds, .int .i64 vw, .int .i64 sq, .int .i64 cl, .int .i64 tg, .int .i64 k, .string nm, .string ot, .int .i64 at_, .int .i64 va, .int .i64 ep, .int .i64 s, .int .i64 rc, .int .i64 rv] : Array Value).toList.take (3 + 0) ++ (#[.int .i64 sq, .int .i64 cl, .int .i64 tg, .int .i64 k, .string nm, .string ot, .int .i64 at_, .int .i64 va, .int .i64 ep] : Array Value).toList ++ (#[.int .i64 kd, .int .i64 ds, .int .i64 vw, .int .i64 sq, .int .i64 cl, .int .i64 tg, .int .i64 k, .string nm, .string ot, .int .i64 at_, .int .i64 va, .int .i64 ep, .int .i64 s, .int .i64 rc, .int .i64 rv] : Array Value).toList.drop (3 + 0 + (#[.int .i64 sq, .int .i64 cl, .int .i64 tg, .int .i64 k, .string nm, .string ot, .int .i64 at_, .int .i64 va, .int .i64 ep] : Array Value).toList.length)).toArray = #[.int .i64 kd, .int .i64 ds, .int .i64 vw, .int .i64 sq, .int .i64 cl, .int .i64 tg, .int .i64 k, .string nm, .string ot, .int .i64 at_, .int .i64 va, .int .i64 ep, .int .i64 s, .int .i64 rc, .int .i64 rv] := rfl
  rw [e, setRow_self w g _ _ _ hg] at h
  have h9 := sizeEnt15
  cases hq : Try.prog.info? 34 with
  | none => rw [hq] at h9; cases h9
  | some i0 =>
    rw [hq] at h9
    simp only [Option.map_some, Option.some.injEq] at h9
    have hs : (Value.agg #[.int .i64 sq, .int .i64 cl, .int .i64 tg, .int .i64 k, .string nm, .string ot, .int .i64 at_, .int .i64 va, .int .i64 ep]).cells.size = 9 := rfl
    have hc : (Value.agg #[.int .i64 sq, .int .i64 cl, .int .i64 tg, .int .i64 k, .string nm, .string ot, .int .i64 at_, .int .i64 va, .int .i64 ep]).cells.toList = (#[.int .i64 sq, .int .i64 cl, .int .i64 tg, .int .i64 k, .string nm, .string ot, .int .i64 at_, .int .i64 va, .int .i64 ep] : Array Value).toList := rfl
    simp only [Instr.storeAt, Instr.sureAddr, Sem.run_bind, Sem.run_pure, Result.andThen_ok]
    unfold storeVar
    simp only [Sem.run_bind, sizeOf, typeInfo, hs, hc]
    simp [hq, h9, h]

theorem msg_one15 (m : Mg) : (mgC m).toArray.all (·.oneCell') = true := by
  rw [Array.all_eq_true_iff_forall_mem]
  intro u hu
  exact msgs_one [m] u (by simpa using hu)

set_option maxHeartbeats 3200000 in
theorem ownMsg_any (kd ds vw sq cl tg k : Int) (nm ot : ByteArray) (at_ va ep s rc rv : Int) (w : World) (hn : nm.size ≤ 1099511627776) (ho : ot.size ≤ 1099511627776) :
    Calls Try.prog 25 #[.agg #[.int .i64 kd, .int .i64 ds, .int .i64 vw, .int .i64 sq, .int .i64 cl, .int .i64 tg, .int .i64 k, .string nm, .string ot, .int .i64 at_, .int .i64 va, .int .i64 ep, .int .i64 s, .int .i64 rc, .int .i64 rv]] w fun e w' => e = .returned (.agg #[.int .i64 kd, .int .i64 ds, .int .i64 vw, .int .i64 sq, .int .i64 cl, .int .i64 tg, .int .i64 k, .string nm, .string ot, .int .i64 at_, .int .i64 va, .int .i64 ep, .int .i64 s, .int .i64 rc, .int .i64 rv]) ∧ Below w.heap.size w w' := by

  obtain ⟨W0, hW0, k0, k1, d0, z0⟩ := box2 w #[.int .i64 kd, .int .i64 ds, .int .i64 vw, .int .i64 sq, .int .i64 cl, .int .i64 tg, .int .i64 k, .string nm, .string ot, .int .i64 at_, .int .i64 va, .int .i64 ep, .int .i64 s, .int .i64 rc, .int .i64 rv] #[.int .i64 0, .int .i64 0, .int .i64 0, .int .i64 0, .int .i64 0, .int .i64 0, .int .i64 0, .string ⟨#[]⟩, .string ⟨#[]⟩, .int .i64 0, .int .i64 0, .int .i64 0, .int .i64 0, .int .i64 0, .int .i64 0] 38 38
  have HW0 : Hid (W0 = _) := hW0
  have p3 := at_cell k0 3
  have p4 := at_cell k0 4
  have p5 := at_cell k0 5
  have p6 := at_cell k0 6
  have p7 := at_cell k0 7
  have p8 := at_cell k0 8
  have p9 := at_cell k0 9
  have p10 := at_cell k0 10
  have p11 := at_cell k0 11
  clear hW0
  go_enter Try.func25, Try.ntmps25
  go_upto_region 1 with fail
  rw [← HW0.out]
  clear HW0
  go_wp2_with fail
  refine (ownEntry_any sq cl tg k at_ va ep nm ot _ hn ho).mono ?_
  rintro e w1 ⟨rfl, b1⟩
  replace k0 := (b1.block _ (by omega)).trans k0
  replace k1 := (b1.block _ (by omega)).trans k1
  replace d0 := bw_call d0 b1
  clear p3 p4 p5 p6 p7 p8 p9 p10 p11 b1
  have HST : Hid _ := same_store15 kd ds vw sq cl tg k nm ot at_ va ep s rc rv w1 w.heap.size k0
  have HI : Hid ((Try.prog.info? 38).map (·.size) = some (#[.int .i64 kd, .int .i64 ds, .int .i64 vw, .int .i64 sq, .int .i64 cl, .int .i64 tg, .int .i64 k, .string nm, .string ot, .int .i64 at_, .int .i64 va, .int .i64 ep, .int .i64 s, .int .i64 rc, .int .i64 rv] : Array Value).size) := sizeMsg15
  have HS15 : Hid ((#[.int .i64 0, .int .i64 0, .int .i64 0, .int .i64 0, .int .i64 0, .int .i64 0, .int .i64 0, .string ⟨#[]⟩, .string ⟨#[]⟩, .int .i64 0, .int .i64 0, .int .i64 0, .int .i64 0, .int .i64 0, .int .i64 0] : Array Value).size = (#[.int .i64 kd, .int .i64 ds, .int .i64 vw, .int .i64 sq, .int .i64 cl, .int .i64 tg, .int .i64 k, .string nm, .string ot, .int .i64 at_, .int .i64 va, .int .i64 ep, .int .i64 s, .int .i64 rc, .int .i64 rv] : Array Value).size) := rfl
  have H115 : Hid ((#[.int .i64 kd, .int .i64 ds, .int .i64 vw, .int .i64 sq, .int .i64 cl, .int .i64 tg, .int .i64 k, .string nm, .string ot, .int .i64 at_, .int .i64 va, .int .i64 ep, .int .i64 s, .int .i64 rc, .int .i64 rv] : Array Value).all (·.oneCell') = true) := msg_one15 ⟨kd, ds, vw, ⟨sq, cl, tg, ⟨k, nm, ot, at_, va, ep⟩⟩, s, rc, rv⟩
  have HK0 : Hid _ := k0
  have HK1 : Hid _ := k1
  have hbS : Below w.heap.size w (w1.setRow (w.heap.size + 1) #[.int .i64 kd, .int .i64 ds, .int .i64 vw, .int .i64 sq, .int .i64 cl, .int .i64 tg, .int .i64 k, .string nm, .string ot, .int .i64 at_, .int .i64 va, .int .i64 ep, .int .i64 s, .int .i64 rc, .int .i64 rv]) := d0.trans (setRow_below (by omega))
  have hrow := setRow_row (cs := #[.int .i64 kd, .int .i64 ds, .int .i64 vw, .int .i64 sq, .int .i64 cl, .int .i64 tg, .int .i64 k, .string nm, .string ot, .int .i64 at_, .int .i64 va, .int .i64 ep, .int .i64 s, .int .i64 rc, .int .i64 rv]) k1
  have HLD : Hid _ := run_loadVar_row (P := Try.prog) _ (w.heap.size + 1) 38 38 #[.int .i64 kd, .int .i64 ds, .int .i64 vw, .int .i64 sq, .int .i64 cl, .int .i64 tg, .int .i64 k, .string nm, .string ot, .int .i64 at_, .int .i64 va, .int .i64 ep, .int .i64 s, .int .i64 rc, .int .i64 rv] (0, 0) _ hrow Try.underlying38 rfl HI.out
  clear hrow k0 k1 d0
  go_wp2_with (first
    | (with_reducible refine wpList_storeAt_of rfl _ _ 34 rfl (.pointer (some ⟨w.heap.size, 3, none⟩)) (.agg #[.int .i64 sq, .int .i64 cl, .int .i64 tg, .int .i64 k, .string nm, .string ot, .int .i64 at_, .int .i64 va, .int .i64 ep]) rfl rfl _ HST.out ?_)
    | (with_reducible refine wpList_load_arr rfl _ 38 rfl w.heap.size rfl #[.int .i64 kd, .int .i64 ds, .int .i64 vw, .int .i64 sq, .int .i64 cl, .int .i64 tg, .int .i64 k, .string nm, .string ot, .int .i64 at_, .int .i64 va, .int .i64 ep, .int .i64 s, .int .i64 rc, .int .i64 rv] 38 (0, 0) HK0.out _ Try.underlying38 rfl HI.out ?_)
    | (with_reducible refine wpList_store_arr rfl _ _ 38 rfl (w.heap.size + 1) rfl #[.int .i64 kd, .int .i64 ds, .int .i64 vw, .int .i64 sq, .int .i64 cl, .int .i64 tg, .int .i64 k, .string nm, .string ot, .int .i64 at_, .int .i64 va, .int .i64 ep, .int .i64 s, .int .i64 rc, .int .i64 rv] rfl #[.int .i64 0, .int .i64 0, .int .i64 0, .int .i64 0, .int .i64 0, .int .i64 0, .int .i64 0, .string ⟨#[]⟩, .string ⟨#[]⟩, .int .i64 0, .int .i64 0, .int .i64 0, .int .i64 0, .int .i64 0, .int .i64 0] 38 HK1.out HI.out HS15.out H115.out ?_)
    | fail)
  refine bodyPost_ret (v := .agg #[.int .i64 kd, .int .i64 ds, .int .i64 vw, .int .i64 sq, .int .i64 cl, .int .i64 tg, .int .i64 k, .string nm, .string ot, .int .i64 at_, .int .i64 va, .int .i64 ep, .int .i64 s, .int .i64 rc, .int .i64 rv]) ?_ rfl ⟨rfl, hbS⟩
  simp [results, Try.results25, asAddr, Act.put, HLD.out]

theorem msg_equal15 (m m' : Mg) (w : World) : (Op.equalIn 10000 38 (mgV m) (mgV m')).run Try.prog w = .ok (mgEq m m') w := by
  obtain ⟨kd, ds, vw, ⟨sq, cl, tg, ⟨k, nm, ot, at_, va, ep⟩⟩, s, rc, rv⟩ := m
  obtain ⟨kd', ds', vw', ⟨sq', cl', tg', ⟨k', nm', ot', at_', va', ep'⟩⟩, s', rc', rv'⟩ := m'
  exact msg_equal kd ds vw sq cl tg k nm ot at_ va ep s rc rv kd' ds' vw' sq' cl' tg' k' at_' va' ep' s' rc' rv' nm' ot' w

theorem wpList_neq15 {ops : Array Oper} {rest : List Oper} {o : Oper} {a : Act} {Q : Exit → Act → World → Prop} {w : World} (hgd : o.guard = none) (x y : Operand) (tt : TypeId) (ho : o.op = .binOp .neq 38 x y tt) (m m' : Mg) (hx : a.eval x = mgV m) (hy : a.eval y = mgV m')
    (h : wpList Try.prog ops Q rest (a.put o.dst (.bool (!mgEq m m'))) w) : wpList Try.prog ops Q (o :: rest) a w :=
  wpList_plain hgd fun K hK => by
    have hKK := hK _ _ h
    have hg := Try.eqGuardType38
    have he := msg_equal15 m m' w
    have hv : ∀ m : Mg, ∃ c, mgV m = .agg c := fun m => ⟨_, rfl⟩
    obtain ⟨c, hc⟩ := hv m
    obtain ⟨c', hc'⟩ := hv m'
    rw [hc, hc'] at he
    rw [hc] at hx
    rw [hc'] at hy
    have hb : (do eqGuard .neq 38 x y (.agg c) (.agg c'); binOp .neq 38 (.agg c) (.agg c') : Sem Value).run Try.prog w = .ok (.bool (!mgEq m m')) w := by
      simp [eqGuard, hg, binOp, Op.equal, Op.maxDepth, he]
    unfold Oper.wp execOp
    simp only [ho, hx, hy, Sem.run_bind, Sem.run_pure, Result.andThen_ok, hb]
    exact hKK

theorem op_small15 {o : Oq} (h : opOk o = true) : o.nm.size ≤ 1099511627776 ∧ o.ot.size ≤ 1099511627776 := by
  have hs : ∀ b : ByteArray, b.data.toList.length = b.size := fun b => by rw [Array.length_toList]; rfl
  have nm4 : ∀ b : ByteArray, Nums.nameB b.data.toList = true → b.size ≤ 1099511627776 := fun b hb => by
    simp only [Nums.nameB, Bool.and_eq_true, decide_eq_true_eq] at hb
    have := hs b
    omega
  simp only [opOk, Bool.and_eq_true, Bool.or_eq_true, Bool.not_eq_true', beq_iff_eq] at h
  obtain ⟨⟨⟨⟨⟨⟨⟨⟨h1, -⟩, h3⟩, h4⟩, -⟩, -⟩, -⟩, -⟩, -⟩ := h
  refine ⟨nm4 _ h1, ?_⟩
  rcases h4 with h4 | h4
  · rw [h4] at h3
    have := of_decide_eq_false h3.symm
    omega
  · exact nm4 _ h4

theorem msg_small15 {m : Mg} (h : msgOk m = true) : m.e.o.nm.size ≤ 1099511627776 ∧ m.e.o.ot.size ≤ 1099511627776 := by
  simp only [msgOk, kindOk, Bool.and_eq_true] at h
  obtain ⟨-, h⟩ := h
  have ask : asked m.e = true → m.e.o.nm.size ≤ 1099511627776 ∧ m.e.o.ot.size ≤ 1099511627776 := fun q => by
    simp only [asked, Bool.and_eq_true] at q
    exact op_small15 q.2
  split at h
  · simp only [Bool.and_eq_true] at h
    exact ask h.1.1
  split at h
  · simp only [Bool.and_eq_true, entOk, changes] at h
    exact op_small15 h.1.1.2.1
  split at h
  · simp only [Bool.and_eq_true] at h
    rw [(entEq_iff _ _).1 h.1.1]
    exact ⟨by decide, by decide⟩
  split at h
  · simp only [Bool.and_eq_true] at h
    exact ask h.1.1.1
  · cases h

set_option maxHeartbeats 3200000 in
theorem letters_any (b n : Nat) (f : Nat → Option Mg) (w : World) (T : BagW w b n f) (hf : ∀ p m, p < 60 → f p = some m → FitMsg m ∧ msgOk m = true) :
    Calls Try.prog 21 #[.map (some b)] w fun e w' => ∃ v, e = .returned v ∧ w'.ownsRow w.heap.size 38 15 v (lettersIn (lineAt f)).length ((lettersIn (lineAt f)).flatMap mgC) ∧ Below w.heap.size w w' := by
  obtain ⟨i0, hi, hz0, hz1, hz2⟩ := info_parts Try.infoMsg
  have hsm : ∀ m ∈ lineAt f, m.e.o.nm.size ≤ 1099511627776 ∧ m.e.o.ot.size ≤ 1099511627776 := fun m hm => by
    obtain ⟨p, hp, rfl⟩ := List.mem_map.1 hm
    cases e : f p with
    | none => exact ⟨by decide, by decide⟩
    | some m => exact msg_small15 (hf p m (List.mem_range.1 hp) e).2
  have HSM : Hid _ := hsm
  have hlen := lineAt_len f
  clear hsm
  go_enter Try.func21, Try.ntmps21
  go_wp2_with fail
  refine (line_any b n f _ (T.below (bw_alloc (Below.refl _ _))) (fun p m h1 h2 => (hf p m h1 h2).1)).mono ?_
  rintro e w1 ⟨rfl, b1⟩
  have own1 : w1.ownsRow w.heap.size 38 15 (.slice (some ⟨w.heap.size, 0, none⟩) 0 0) ([] : List Mg).length (([] : List Mg).flatMap mgC) := owns_below (own_nomsgs w) b1
  have d1 : Below w.heap.size w w1 := bw_call (bw_alloc (Below.refl _ _)) b1
  clear b1 T hf
  generalize hL : lineAt f = L at *
  have HL : Hid (lineAt f = L) := hL
  clear hL
  have HLEN : Hid (L.length = 60) := hlen
  clear hlen
  go_wp2_with fail
  go_loopw [3, 9] (fun q i wr => ∃ (j : Nat) (xs : List Mg) (o : Option Addr) (cp : Nat), j ≤ 60 ∧ i = .int .i64 j ∧ q = .slice o xs.length cp ∧ xs = lettersIn (L.take j) ∧ wr.ownsRow w.heap.size 38 15 (.slice o xs.length cp) xs.length (xs.flatMap mgC) ∧ Below w.heap.size w wr) (fun _ i _ => 60 - (intOf i).toNat)
  case atStart => exact ⟨0, [], _, _, by omega, rfl, rfl, by simp [lettersIn], own1, d1⟩
  case round =>
    clear own1 d1
    obtain ⟨j, xs, o, cp, hj, rfl, rfl, hxs, own, d⟩ := hrel
    have HXS : Hid (xs = lettersIn (L.take j)) := hxs
    clear hxs
    have hxl : xs.length ≤ 60 := by
      rw [HXS.out]
      refine Nat.le_trans (List.length_filter_le _ _) ?_
      rw [List.length_take]
      omega
    by_cases hlt : j < 60
    · obtain ⟨m, hm⟩ : ∃ m, L[j]? = some m := ⟨L[j]'(by rw [HLEN.out]; exact hlt), List.getElem?_eq_getElem _⟩
      have hsm := HSM.out m (List.mem_of_getElem? hm)
      have HTK : Hid (lettersIn (L.take (j + 1)) = lettersIn (L.take j) ++ (if mgEq m Mg.zero = true then [] else [m])) := by
        rw [Hid, List.take_add_one, hm, lettersIn, lettersIn, List.filter_append]
        cases e : mgEq m Mg.zero <;> simp [e]
      have hj1 : (j : Int) < 60 := by omega
      have hj0 : (0 : Int) ≤ (j : Int) := by omega
      have hidx := index60 wr L j hlt m hm
      obtain ⟨kd, ds, vw, ⟨sq, cl, tg, ⟨k, nm, ot, at_, va, ep⟩⟩, s, rc, rv⟩ := m
      simp only [mgV] at hidx
      simp only at hsm
      have hdA : Below w.heap.size w (wr.alloc (.cells #[.int .i64 kd, .int .i64 ds, .int .i64 vw, .int .i64 sq, .int .i64 cl, .int .i64 tg, .int .i64 k, .string nm, .string ot, .int .i64 at_, .int .i64 va, .int .i64 ep, .int .i64 s, .int .i64 rc, .int .i64 rv] 38)) := bw_alloc d
      have ownA := own.alloc (.cells #[.int .i64 kd, .int .i64 ds, .int .i64 vw, .int .i64 sq, .int .i64 cl, .int .i64 tg, .int .i64 k, .string nm, .string ot, .int .i64 at_, .int .i64 va, .int .i64 ep, .int .i64 s, .int .i64 rc, .int .i64 rv] 38)
      have HA : Hid _ := And.intro hdA ownA
      clear hm own hdA ownA
      obtain ⟨bz, hbz⟩ : ∃ z, mgEq ⟨kd, ds, vw, ⟨sq, cl, tg, ⟨k, nm, ot, at_, va, ep⟩⟩, s, rc, rv⟩ Mg.zero = z := ⟨_, rfl⟩
      rw [hbz] at HTK
      have HBZ : Hid (mgEq ⟨kd, ds, vw, ⟨sq, cl, tg, ⟨k, nm, ot, at_, va, ep⟩⟩, s, rc, rv⟩ Mg.zero = bz) := hbz
      clear hbz
      cases bz
      · go_wp2_with (first
          | (with_reducible refine wpList_index_of rfl 75 _ _ rfl (.agg (lineC L)) (.int .i64 (j : Int)) rfl rfl _ hidx ?_)
          | (refine wpList_neq15 rfl _ _ _ rfl ⟨kd, ds, vw, ⟨sq, cl, tg, ⟨k, nm, ot, at_, va, ep⟩⟩, s, rc, rv⟩ Mg.zero rfl rfl ?_; rw [HBZ.out])
          | fail)
        refine (ownMsg_any kd ds vw sq cl tg k nm ot at_ va ep s rc rv _ hsm.1 hsm.2).mono ?_
        rintro e w2 ⟨rfl, b2⟩
        have own2 := owns_below HA.out.2 b2
        have d2 := bw_call HA.out.1 b2
        have HO4 : Hid _ := World.ownsRow.alloc own2 (.cells #[.int .i64 kd, .int .i64 ds, .int .i64 vw, .int .i64 sq, .int .i64 cl, .int .i64 tg, .int .i64 k, .string nm, .string ot, .int .i64 at_, .int .i64 va, .int .i64 ep, .int .i64 s, .int .i64 rc, .int .i64 rv] 38)
        have hbl : Hid (∀ k, (Value.slice o xs.length cp).ownBlock = some k → w.heap.size ≤ k) := fun k hk => (own2.lt k hk).1
        have hsz := d2.size
        clear HA own2 b2 hidx
        go_wp2_with (at_builtin; refine wpList_append_own _ rfl _ _ 24 rfl w.heap.size 38 i0 (.agg #[.int .i64 0, .int .i64 0, .int .i64 0, .int .i64 0, .int .i64 0, .int .i64 0, .int .i64 0, .string ByteArray.empty, .string ByteArray.empty, .int .i64 0, .int .i64 0, .int .i64 0, .int .i64 0, .int .i64 0, .int .i64 0]) 15 136 Try.underlying24 hi hz0 hz1 hz2 rfl (by decide) _ _ _ rfl HO4.out ⟨w2.heap.size, 0, none⟩ 1 1 (mgC ⟨kd, ds, vw, ⟨sq, cl, tg, ⟨k, nm, ot, at_, va, ep⟩⟩, s, rc, rv⟩) rfl rfl ?c1 ?c2 ?c3 ?c4 ?c5 ?_)
        case c1 => exact new_msg w2 ⟨kd, ds, vw, ⟨sq, cl, tg, ⟨k, nm, ot, at_, va, ep⟩⟩, s, rc, rv⟩ _
        case c2 =>
          intro u hu
          exact msgs_one [⟨kd, ds, vw, ⟨sq, cl, tg, ⟨k, nm, ot, at_, va, ep⟩⟩, s, rc, rv⟩] u (by simpa using hu)
        case c3 => unfold maxLen; omega
        case c4 => omega
        case c5 => first | omega | (simp; omega)
        intro v5 w5 own5 gr5 nil5
        have B5 : Below w.heap.size w w5 := (bw_alloc d2).grown gr5 (by first | omega | (simp; omega)) hbl.out
        have own6 : w5.ownsRow w.heap.size 38 15 v5 (xs ++ [(⟨kd, ds, vw, ⟨sq, cl, tg, ⟨k, nm, ot, at_, va, ep⟩⟩, s, rc, rv⟩ : Mg)]).length ((xs ++ [(⟨kd, ds, vw, ⟨sq, cl, tg, ⟨k, nm, ot, at_, va, ep⟩⟩, s, rc, rv⟩ : Mg)]).flatMap mgC) := by
          rw [List.length_append, List.flatMap_append]
          simpa using own5
        obtain ⟨o5, c5, rfl⟩ := own_slice own6
        have HF : Hid _ := And.intro own6 B5
        have HX : Hid (xs ++ [(⟨kd, ds, vw, ⟨sq, cl, tg, ⟨k, nm, ot, at_, va, ep⟩⟩, s, rc, rv⟩ : Mg)] = lettersIn (L.take (j + 1))) := by rw [Hid, HTK.out, HXS.out]; rfl
        clear own5 own6 gr5 nil5 hbl B5 d2 HO4 HTK
        generalize hxx : xs ++ [(⟨kd, ds, vw, ⟨sq, cl, tg, ⟨k, nm, ot, at_, va, ep⟩⟩, s, rc, rv⟩ : Mg)] = xx at *
        clear hxx
        go_wp2_with fail
        go_roundw
        case rel => exact ⟨j + 1, xx, o5, c5, by omega, by go_num, rfl, HX.out, HF.out.1, HF.out.2⟩
        case measure => simp [intOf]; omega
      · have HX : Hid (xs = lettersIn (L.take (j + 1))) := by rw [Hid, HTK.out, HXS.out]; simp
        clear HTK
        go_wp2_with (first
          | (with_reducible refine wpList_index_of rfl 75 _ _ rfl (.agg (lineC L)) (.int .i64 (j : Int)) rfl rfl _ hidx ?_)
          | (refine wpList_neq15 rfl _ _ _ rfl ⟨kd, ds, vw, ⟨sq, cl, tg, ⟨k, nm, ot, at_, va, ep⟩⟩, s, rc, rv⟩ Mg.zero rfl rfl ?_; rw [HBZ.out])
          | fail)
        go_roundw
        case rel => exact ⟨j + 1, xs, o, cp, by omega, by go_num, rfl, HX.out, HA.out.2, HA.out.1⟩
        case measure => simp [intOf]; omega
    · obtain rfl : j = 60 := by omega
      have HX : Hid (xs = lettersIn L) := by rw [Hid, HXS.out, List.take_of_length_le (by rw [HLEN.out]; omega)]
      go_wp2_with fail
      go_ret
      exact ⟨_, rfl, by rw [HL.out, ← HX.out]; exact own, d⟩
end Go.Proofs.Ytgabhnhfomekfaa

