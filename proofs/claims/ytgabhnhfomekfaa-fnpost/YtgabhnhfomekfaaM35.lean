/-
  Contracts and plain laws, one chapter behind the other.
-/
import Derived.Test.YtgabhnhfomekfaaM20
import Derived.Test.YtgabhnhfomekfaaM32
import Derived.Test.YtgabhnhfomekfaaM34
namespace Go.Proofs.Ytgabhnhfomekfaa
open Go.RowKit

set_option linter.unusedVariables false

set_option maxRecDepth 100000


/-! a step of the range, a line's making -/
section
variable {P : Program} {ops : Array Oper} {rest : List Oper} {o : Oper} {a : Act} {Q : Exit → Act → World → Prop}

theorem ranges_block {w w' : World} {b r n : Nat} {D : DataW Unit} {left : Lit → Bool} {cnt : Nat} (h : w.ranges Try.prog 38 bagR b r n D left cnt) (e1 : w'.heap[b]? = w.heap[b]?) (e2 : w'.heap[r]? = w.heap[r]?) : w'.ranges Try.prog 38 bagR b r n D left cnt := by
  obtain ⟨es, clock, since, seen, c0, hb, F, hs, hD, hr, rest⟩ := h
  exact ⟨es, clock, since, seen, c0, e1.trans hb, F, hs, hD, e2.trans hr, rest⟩

theorem ranges_below {w w' : World} {b r n : Nat} {D : DataW Unit} {left : Lit → Bool} {cnt : Nat} (h : w.ranges Try.prog 38 bagR b r n D left cnt) (k : Below w.heap.size w w') : w'.ranges Try.prog 38 bagR b r n D left cnt :=
  ranges_block h (k.block _ h.owns.lt) (k.block _ h.lt)

theorem ranges_upto {w w' : World} {b r n g : Nat} {D : DataW Unit} {left : Lit → Bool} {cnt : Nat} (h : w.ranges Try.prog 38 bagR b r n D left cnt) (k : Upto g w w') (h1 : b ≠ g) (h2 : r ≠ g) : w'.ranges Try.prog 38 bagR b r n D left cnt :=
  ranges_block h (k.block _ h.owns.lt h1) (k.block _ h.lt h2)

theorem wpList_next_bag (w : World) (hg : o.guard = none) (it : Operand) (hop : o.op = Op.next it false) (b r n : Nat) (D : DataW Unit) (f : Nat → Option Mg) (hB : BagD D f) (left : Lit → Bool) (cnt : Nat) (hsub : ∀ kl, left kl = true → Maps.has D kl = true)
    (hit : a.eval it = .pointer (some ⟨r, 0, none⟩)) (h : w.ranges Try.prog 38 bagR b r n D left cnt)
    (hDone : (∀ kl, left kl = false) → wpList Try.prog ops Q rest (a.put o.dst (.tuple #[.bool false])) w)
    (hMore : ∀ (m : Mg) (c : Nat) (kl : Lit) (w' : World) (cnt' : Nat), FitMsg m → keyOf Try.prog 38 (mgV m) = some kl → left kl = true → MaskOf c f m → w'.ranges Try.prog 38 bagR b r n D (fun z => left z && !z.sameKey kl) cnt' → cnt' < cnt →
      w.grownBy w' (some r) → w'.heap.size = w.heap.size → (Instr.entry (.pointer (some ⟨r, 0, none⟩))).run Try.prog w' = .ok (.tuple #[mgV m, .int .u64 (c : Int)]) w' → wpList Try.prog ops Q rest (a.put o.dst (.tuple #[.bool true, mgV m, .int .u64 (c : Int)])) w') :
    wpList Try.prog ops Q (o :: rest) a w := by
  refine wpList_plain hg fun K' hK' => ?_
  unfold Oper.wp
  rcases h.next bagKeys o.type with ⟨h0, hl, hrun⟩ | ⟨key, v, kl, y, w', cnt', hkey, hlk, hv, hat, hrun, hrg, hlt, hgr, hsz, hen⟩
  · simp [execOp, hop, hit, hrun, Result.andThen]
    exact hK' _ _ (hDone hl)
  · obtain ⟨m, hfm, hkm⟩ := hB.known kl (hsub kl hlk)
    obtain rfl := bagKeys.inj hkey hkm
    obtain ⟨x, rfl, rfl, hwx⟩ := plainElem_int_inv Try.underlying72 hv
    obtain ⟨c, hc, hm⟩ := hB.at_ m kl hkm
    have e := (hat (setD 0)).symm.trans hc
    simp only [setD, DataW.lit.injEq, Lit.int.injEq, true_and] at e
    subst e
    simp [execOp, hop, hit, hrun, Result.andThen]
    exact hK' _ _ (hMore m c kl w' cnt' hfm hkm hlk hm hrg hlt hgr hsz hen)

theorem wpList_index_of {w : World} (hgd : o.guard = none) (t : TypeId) (x ix : Operand) (ho : o.op = .index t x ix) (u i : Value) (hu : a.eval x = u) (hi : a.eval ix = i) (v : Value) (hr : (Instr.index t u i).run P w = .ok v w) (h : wpList P ops Q rest (a.put o.dst v) w) : wpList P ops Q (o :: rest) a w :=
  wpList_plain hgd fun K hK => by
    have hKK := hK _ _ h
    unfold Oper.wp execOp
    simp only [ho, hu, hi, Sem.run_bind, Sem.run_pure, Result.andThen_ok, hr]
    exact hKK

theorem wpList_storeAt_of {w : World} (hgd : o.guard = none) (p x : Operand) (t : TypeId) (ho : o.op = .store t p x) (ad v : Value) (hp : a.eval p = ad) (hx : a.eval x = v) (w' : World) (hr : (Instr.storeAt t ad v).run P w = .ok () w') (h : wpList P ops Q rest (a.put o.dst undef) w') : wpList P ops Q (o :: rest) a w :=
  wpList_plain hgd fun K hK => by
    have hKK := hK _ _ h
    unfold Oper.wp execOp
    simp only [ho, hp, hx, Sem.run_bind, Sem.run_pure, Result.andThen_ok, hr]
    exact hKK

end

/-- The cells of sixty letters. -/
def lineC (l : List Mg) : Array Value := (l.flatMap mgC).toArray

theorem lineC_size (l : List Mg) : (lineC l).size = l.length * 15 := by
  unfold lineC
  rw [List.size_toArray, flat_length mgC_len]

theorem lineC_one (l : List Mg) : (lineC l).all (·.oneCell') = true := by
  rw [Array.all_eq_true_iff_forall_mem]
  intro u hu
  exact msgs_one l u (by simpa [lineC] using hu)

def zeros60 : List Mg := List.replicate 60 Mg.zero

theorem zc60 : Try.zeroCells75 = lineC zeros60 := by kernel_rfl

theorem size60 : (Try.prog.info? 75).map (·.size) = some 900 := by kernel_rfl

theorem sizeMsg15 : (Try.prog.info? 38).map (·.size) = some 15 := by kernel_rfl

theorem index60 (W : World) (l : List Mg) (i : Nat) (hi : i < 60) (m : Mg) (hm : l[i]? = some m) : (Instr.index 75 (.agg (lineC l)) (.int .i64 (i : Int))).run Try.prog W = .ok (mgV m) W := by
  have h15 := sizeMsg15
  have h0 : (0 : Int) ≤ (i : Int) := by omega
  have h1 : (i : Int) < 60 := by omega
  have e : (lineC l).extract (i * 15) (i * 15 + 15) = #[.int .i64 m.kd, .int .i64 m.ds, .int .i64 m.vw, .int .i64 m.e.sq, .int .i64 m.e.cl, .int .i64 m.e.tg, .int .i64 m.e.o.k, .string m.e.o.nm, .string m.e.o.ot, .int .i64 m.e.o.at_, .int .i64 m.e.o.va, .int .i64 m.e.o.ep, .int .i64 m.s, .int .i64 m.rc, .int .i64 m.rv] := by
    have hil : i < l.length := by
      rcases Nat.lt_or_ge i l.length with q | q
      · exact q
      · rw [List.getElem?_eq_none q] at hm; cases hm
    apply Array.ext_getElem?
    intro j
    rw [Array.getElem?_extract]
    have hs := lineC_size l
    by_cases hj : j < 15
    · rw [if_pos (by rw [hs]; omega)]
      show (l.flatMap mgC).toArray[i * 15 + j]? = _
      rw [List.getElem?_toArray, flat_get mgC_len l i j m hm hj]
      show (mgC m)[j]? = (mgC m).toArray[j]?
      rw [List.getElem?_toArray]
    · rw [if_neg (by rw [hs]; omega)]
      rw [Array.getElem?_eq_none (by simp; omega)]
  cases hq : Try.prog.info? 38 with
  | none => rw [hq] at h15; cases h15
  | some i0 =>
    rw [hq] at h15
    simp only [Option.map_some, Option.some.injEq] at h15
    simp [Instr.index, asIntOf, run_underlying Try.underlying75, run_underlying Try.underlying38, sizeOf, typeInfo, hq, h15, h0, part, isAgg, e, mgV]
    intro h
    omega

/-- All letters of a bag that is nothing but a list's are right just where the list's are. -/
theorem right_yes {D : DataW Unit} {l : List Mg} (hB : BagD D (placesOf l)) (hl : l.length ≤ 60) (hf : FitPost l) (h : ∀ m kl, keyOf Try.prog 38 (mgV m) = some kl → Maps.has D kl = true → msgOk m = true) : allOk l = true := by
  unfold allOk
  rw [List.all_eq_true]
  intro m hm
  obtain ⟨i, hi, e⟩ := List.getElem_of_mem hm
  obtain ⟨kl, hkl⟩ := key_of (hf m hm)
  exact h m kl hkl (hB.all i m kl (by omega) (by rw [placesOf, List.getElem?_eq_getElem hi, e]) hkl)

theorem right_no {D : DataW Unit} {l : List Mg} (hT : Tight D (placesOf l)) {m : Mg} {kl : Lit} (hk : keyOf Try.prog 38 (mgV m) = some kl) (hh : Maps.has D kl = true) (h : msgOk m = false) : allOk l = false := by
  obtain ⟨p, hp, e⟩ := hT m kl hk hh
  unfold placesOf at e
  have hpl : p < l.length := by
    rcases Nat.lt_or_ge p l.length with q | q
    · exact q
    · rw [List.getElem?_eq_none q] at e; cases e
  refine allOk_no hpl ?_
  rw [List.getElem?_eq_getElem hpl] at e
  cases e
  exact h

set_option maxHeartbeats 1600000 in
theorem right_any (b n : Nat) (l : List Mg) (w : World) (T : BagT w b n (placesOf l)) (hl : l.length ≤ 60) (hf : FitPost l) :
    Calls Try.prog 44 #[.map (some b)] w fun e w' => e = .returned (.bool (allOk l)) ∧ Below w.heap.size w w' := by
  have hbw := T.lt
  obtain ⟨D, own, hB, hT⟩ := T.ex
  clear T
  go_enter Try.func44, Try.ntmps44
  go_wp2_with (first
    | (at_range; refine wpList_range_own _ rfl _ 49 rfl 38 72 bagKeys Try.underlying49 bagR b n D rfl own ?_; intro w0 hrg0 hg0 hs0)
    | fail)
  go_frame
  have d0 : Below w.heap.size w w0 := (Below.refl _ _).grown hg0 (by omega) (fun j hj => by cases hj)
  go_loopw [2] (fun i wr => i = .bool false ∧ ∃ (left : Lit → Bool) (cnt : Nat), wr.ranges Try.prog 38 bagR b w.heap.size n D left cnt ∧ Below w.heap.size w wr ∧ (∀ kl, left kl = true → Maps.has D kl = true) ∧ (∀ m kl, keyOf Try.prog 38 (mgV m) = some kl → Maps.has D kl = true → left kl = true ∨ msgOk m = true))
    (fun _ wr => wr.rangeLeft b w.heap.size)
  case atStart => exact ⟨rfl, _, _, hrg0, d0, fun _ h => h, fun _ _ _ h => .inl h⟩
  case round =>
    clear hrg0 d0 hg0 hs0
    obtain ⟨rfl, left, cnt, hrg, hd, hsub, hdo⟩ := hrel
    have HDO : Hid _ := hdo
    have HSUB : Hid _ := hsub
    clear hdo
    go_wp2_with (first
      | (at_next; refine wpList_next_bag _ rfl _ rfl b w.heap.size n D (placesOf l) hB left cnt hsub rfl hrg ?_ ?_)
      | fail)
    · intro hl0
      have HV : Hid (allOk l = true) := right_yes hB hl hf fun m kl hk hh => (HDO.out m kl hk hh).elim (fun q => by rw [hl0] at q; cases q) id
      go_wp2_with fail
      go_ret
      exact ⟨ret_bool HV.out.symm, hd⟩
    · intro m c kl w1 cnt1 hfm hkm hlk hmask hrg1 hlt hg1 hs1 hen
      have hd1 : Below w.heap.size w w1 := hd.grown hg1 hd.size (fun j hj => by cases hj; exact Nat.le_refl _)
      have hlw := hrg1.lt
      have HK : Hid _ := And.intro hkm (And.intro hlk (And.intro hrg1 hlt))
      obtain ⟨kd, ds, vw, ⟨sq, cl, tg, ⟨k, nm, ot, at_, va, ep⟩⟩, s, rc, rv⟩ := m
      have HFE : Hid (FitEnt ⟨sq, cl, tg, ⟨k, nm, ot, at_, va, ep⟩⟩) := hfm.1
      simp only [mgV] at hen ⊢
      clear hkm hlk hmask hrg1 hg1 hfm
      go_wp2_with (first
        | (with_reducible refine wpList_store_arr rfl _ _ 38 rfl w1.heap.size rfl #[.int .i64 kd, .int .i64 ds, .int .i64 vw, .int .i64 sq, .int .i64 cl, .int .i64 tg, .int .i64 k, .string nm, .string ot, .int .i64 at_, .int .i64 va, .int .i64 ep, .int .i64 s, .int .i64 rc, .int .i64 rv] rfl _ 38 (heap_alloc_new w1 _) sizeMsg15 rfl rfl ?_)
        | fail)
      refine (implMsgOk_any kd ds vw sq cl tg k nm ot at_ va ep s rc rv _ HFE.out).mono ?_
      rintro e w2 ⟨rfl, b2⟩
      have hb2 : Below w1.heap.size w1 w2 := bw_call (bw_alloc (Below.refl _ _)) b2
      have hd2 := bw_call hd1 hb2
      have hrg2 := ranges_below HK.out.2.2.1 hb2
      have hcnt : w2.rangeLeft b w.heap.size < wr.rangeLeft b w.heap.size := by rw [hrg2.left_eq, hrg.left_eq]; exact hlt
      cases hok : msgOk ⟨kd, ds, vw, ⟨sq, cl, tg, ⟨k, nm, ot, at_, va, ep⟩⟩, s, rc, rv⟩
      · have HV : Hid (allOk l = false) := right_no hT HK.out.1 (HSUB.out kl HK.out.2.1) hok
        clear hok hrg2 b2 hb2
        go_wp2_with fail
        go_ret
        exact ⟨ret_bool HV.out.symm, hd2⟩
      · have HN : Hid _ := And.intro hrg2 (And.intro hd2 (And.intro hcnt hok))
        clear hok hrg2 b2 hb2 hd2 hcnt
        go_wp2_with fail
        go_roundw
        case rel =>
          refine ⟨rfl, _, cnt1, HN.out.1, HN.out.2.1, fun kl' h => HSUB.out kl' (Bool.and_eq_true_iff.1 h).1, fun m' kl' hk' hh => ?_⟩
          rcases HDO.out m' kl' hk' hh with q | q
          · by_cases e : kl' = kl
            · subst e
              obtain rfl := key_same HK.out.1 hk'
              exact .inr HN.out.2.2.2
            · exact .inl (by rw [q, Maps.sameKey_ne e]; rfl)
          · exact .inr q
        case measure => exact HN.out.2.2.1
end Go.Proofs.Ytgabhnhfomekfaa

