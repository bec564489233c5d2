/-
  Contracts and plain laws, one chapter behind the other.
-/
import Derived.Laws.CopyRow
import Derived.Test.YtgabhnhfomekfaaM35
namespace Go.Proofs.Ytgabhnhfomekfaa
open Go.RowKit

set_option linter.unusedVariables false

set_option maxRecDepth 100000


theorem flat_take15 : ∀ (l : List Mg) (i : Nat), (l.flatMap mgC).take (i * 15) = (l.take i).flatMap mgC
  | [], i => by simp
  | x :: r, 0 => by simp
  | x :: r, i + 1 => by
    rw [List.flatMap_cons, List.take_succ_cons, List.flatMap_cons, List.take_append, mgC_len, List.take_of_length_le (by rw [mgC_len]; omega), show (i + 1) * 15 - 15 = i * 15 by omega, flat_take15 r i]

theorem flat_drop15 : ∀ (l : List Mg) (i : Nat), (l.flatMap mgC).drop (i * 15) = (l.drop i).flatMap mgC
  | [], i => by simp
  | x :: r, 0 => by simp
  | x :: r, i + 1 => by
    rw [List.flatMap_cons, List.drop_succ_cons, List.drop_append, mgC_len, List.drop_of_length_le (by rw [mgC_len]; omega), show (i + 1) * 15 - 15 = i * 15 by omega, flat_drop15 r i, List.nil_append]

theorem flat_put15 (l : List Mg) (i : Nat) (hi : i < l.length) (m : Mg) : (l.flatMap mgC).take (i * 15) ++ mgC m ++ (l.flatMap mgC).drop ((i + 1) * 15) = (l.set i m).flatMap mgC := by
  rw [flat_take15, flat_drop15, List.set_eq_take_append_cons_drop, if_pos hi, List.flatMap_append, List.flatMap_cons, List.append_assoc]

theorem store60 (w : World) (g : Nat) (l : List Mg) (i : Nat) (hi : i < l.length) (m : Mg) (hg : w.heap[g]? = some (.cells (lineC l) 75 (0, 0))) :
    (Instr.storeAt 38 (.pointer (some ⟨g, i * 15, none⟩)) (mgV m)).run Try.prog w = .ok () (w.setRow g (lineC (l.set i m))) := by
  have h := run_storeCells_at (P := Try.prog) g (i * 15) 75 (mgC m) 0 (lineC l) w hg (by rw [lineC_size, mgC_len]; omega) (fun v hv => msgs_one [m] v (by simpa using hv))
  have e : ((lineC l).toList.take (i * 15 + 0) ++ mgC m ++ (lineC l).toList.drop (i * 15 + 0 + (mgC m).length)).toArray = lineC (l.set i m) := by
    have e1 : (lineC l).toList = l.flatMap mgC := rfl
    rw [e1, mgC_len, Nat.add_zero, show i * 15 + 15 = (i + 1) * 15 by omega, flat_put15 l i hi m]
    rfl
  rw [e] at h
  have h15 := sizeMsg15
  cases hq : Try.prog.info? 38 with
  | none => rw [hq] at h15; cases h15
  | some i0 =>
    rw [hq] at h15
    simp only [Option.map_some, Option.some.injEq] at h15
    have hc : (mgV m).cells.toList = mgC m := rfl
    have hs : (mgV m).cells.size = 15 := rfl
    simp [Instr.storeAt, Instr.sureAddr, storeVar, sizeOf, typeInfo, hq, h15, hs, hc, h]

theorem row_upto15 {w : World} {g : Nat} {cs : Array Value} : Upto g w (w.setRow g cs) := by
  refine ⟨rfl, rfl, rfl, by simp [World.setRow], fun k hk hne => ?_⟩
  simp only [World.setRow, Array.getElem?_modify]
  rw [if_neg (fun e => hne e.symm)]

/-- A line by what stands at each place. -/
def lineG (g : Nat → Mg) : List Mg := (List.range 60).map g

theorem lineG_len (g : Nat → Mg) : (lineG g).length = 60 := by simp [lineG]

theorem lineG_set (g : Nat → Mg) (k : Nat) (hk : k < 60) (m : Mg) : (lineG g).set k m = lineG (fun p => if p = k then m else g p) := by
  apply List.ext_getElem?
  intro i
  unfold lineG
  rw [List.getElem?_set, List.getElem?_map, List.getElem?_map]
  by_cases e : k = i
  · subst e
    rw [if_pos rfl, List.getElem?_range hk]
    simp [hk]
  · rw [if_neg e]
    by_cases h60 : i < 60
    · rw [List.getElem?_range h60]
      simp [Ne.symm e]
    · rw [List.getElem?_eq_none (by simp; omega)]
      rfl

theorem lineG_same {g g' : Nat → Mg} (h : ∀ p, p < 60 → g p = g' p) : lineG g = lineG g' := by
  unfold lineG
  refine List.map_congr_left fun p hp => h p (List.mem_range.1 hp)

theorem line_zero : lineG (fun _ => Mg.zero) = zeros60 := by
  unfold lineG zeros60
  rw [List.map_const', List.length_range]

theorem lineAt_G (f : Nat → Option Mg) : lineAt f = lineG (fun p => (f p).getD Mg.zero) := rfl

/-- What a line has when the letters in 'left' are still to come. -/
structure LineS (f : Nat → Option Mg) (left : Lit → Bool) (g : Nat → Mg) : Prop where
  no : ∀ p, p < 60 → f p = none → g p = Mg.zero
  hs : ∀ p m kl, p < 60 → f p = some m → keyOf Try.prog 38 (mgV m) = some kl → g p = if left kl = true then Mg.zero else m

theorem LineS.start {D : DataW Unit} {f : Nat → Option Mg} (hB : BagD D f) : LineS f (Maps.has D) (fun _ => Mg.zero) :=
  ⟨fun _ _ _ => rfl, fun p m kl hp hf hk => by rw [if_pos (hB.all p m kl hp hf hk)]⟩

theorem LineS.step {f : Nat → Option Mg} {left : Lit → Bool} {g : Nat → Mg} (h : LineS f left g) {m : Mg} {kl : Lit} {c : Nat} (hk : keyOf Try.prog 38 (mgV m) = some kl) (hl : left kl = true) (hm : MaskOf c f m) :
    LineS f (fun z => left z && !z.sameKey kl) (fun p => if p < 60 ∧ c.testBit p = true then m else g p) := by
  have hK := bagKeys.key hk
  refine ⟨fun p hp hf => ?_, fun p m' kl' hp hf hk' => ?_⟩
  · have h1 : c.testBit p = false := by
      rw [Bool.eq_false_iff]
      intro q
      have := ((hm.2 p).1 q).2
      rw [hf] at this
      cases this
    simp only [h1, Bool.false_eq_true, and_false, if_false]
    exact h.no p hp hf
  · by_cases e : m' = m
    · subst e
      rw [hk] at hk'
      cases hk'
      have h1 : c.testBit p = true := (hm.2 p).2 ⟨hp, hf⟩
      simp only [h1, hp, and_self, if_true, WideAt.sameKey_self hK, Bool.not_true, Bool.and_false, Bool.false_eq_true, if_false]
    · have h1 : c.testBit p = false := by
        rw [Bool.eq_false_iff]
        intro q
        have := ((hm.2 p).1 q).2
        rw [hf] at this
        cases this
        exact e rfl
      have h2 : kl' ≠ kl := fun q => by subst q; exact e (key_same hk' hk)
      simp only [h1, Bool.false_eq_true, and_false, if_false, Maps.sameKey_ne h2, Bool.not_false, Bool.and_true]
      exact h.hs p m' kl' hp hf hk'

theorem LineS.done {f : Nat → Option Mg} {left : Lit → Bool} {g : Nat → Mg} (h : LineS f left g) (hf : ∀ p m, p < 60 → f p = some m → FitMsg m) (h0 : ∀ kl, left kl = false) : lineG g = lineAt f := by
  rw [lineAt_G]
  refine lineG_same fun p hp => ?_
  cases hfp : f p with
  | none => exact h.no p hp hfp
  | some m =>
    obtain ⟨kl, hk⟩ := key_of (hf p m hp hfp)
    rw [h.hs p m kl hp hfp hk, h0, if_neg (by simp)]
    rfl

set_option maxHeartbeats 3200000 in
theorem line_any (b n : Nat) (f : Nat → Option Mg) (w : World) (T : BagW w b n f) (hf : ∀ p m, p < 60 → f p = some m → FitMsg m) :
    Calls Try.prog 45 #[.map (some b)] w fun e w' => e = .returned (.agg (lineC (lineAt f))) ∧ Below w.heap.size w w' := by
  have hbw := T.lt
  obtain ⟨D, own, hB⟩ := T.ex
  clear T
  obtain ⟨Z, hZ⟩ : ∃ Z, Try.zeroCells75 = Z := ⟨_, rfl⟩
  have hz : Hid (Z = lineC zeros60) := hZ.symm.trans zc60
  have HIZ : (Try.prog.info? 75).map (·.size) = some Z.size := by rw [hz.out, lineC_size, show zeros60.length * 15 = 900 from rfl]; exact size60
  have HOZ : Z.all (·.oneCell') = true := by rw [hz.out]; exact lineC_one _
  have d1 : Below w.heap.size w ((w.alloc (.cells Z 75)).alloc (.cells Z 75)) := bw_alloc (bw_alloc (Below.refl _ _))
  have kA1 : ((w.alloc (.cells Z 75)).alloc (.cells Z 75)).heap[w.heap.size]? = some (.cells Z 75 (0, 0)) :=
    ((bw_alloc (o := .cells Z 75) (Below.refl (w.alloc (.cells Z 75)).heap.size (w.alloc (.cells Z 75)))).block w.heap.size (by simp)).trans (heap_alloc_new w _)
  have kB1 : ((w.alloc (.cells Z 75)).alloc (.cells Z 75)).heap[w.heap.size + 1]? = some (.cells Z 75 (0, 0)) := by
    have h := heap_alloc_new (w.alloc (.cells Z 75)) (.cells Z 75)
    rwa [show (w.alloc (.cells Z 75)).heap.size = w.heap.size + 1 by simp] at h
  have d2 : Below w.heap.size w (((w.alloc (.cells Z 75)).alloc (.cells Z 75)).setRow (w.heap.size + 1) Z) := d1.trans (setRow_below (by omega))
  have own2 := map_of_block own (d2.block b hbw)
  have kB2 := setRow_row (cs := Z) kB1
  have kA2 : (((w.alloc (.cells Z 75)).alloc (.cells Z 75)).setRow (w.heap.size + 1) Z).heap[w.heap.size]? = some (.cells Z 75 (0, 0)) :=
    ((row_upto15 (w := (w.alloc (.cells Z 75)).alloc (.cells Z 75)) (g := w.heap.size + 1) (cs := Z)).block w.heap.size (heap_lt kA1) (by omega)).trans kA1
  have z2 : (((w.alloc (.cells Z 75)).alloc (.cells Z 75)).setRow (w.heap.size + 1) Z).heap.size = w.heap.size + 1 + 1 := by simp [World.setRow]
  go_enter Try.func45, Try.ntmps45
  go_wp2_with (first
    | (with_reducible refine wpList_store_arr rfl _ _ 75 rfl (w.heap.size + 1) rfl Z rfl Z 75 kB1 HIZ rfl HOZ ?_)
    | (at_range; refine wpList_range_own _ rfl _ 49 rfl 38 72 bagKeys Try.underlying49 bagR b n D rfl own2 ?_; intro w0 hrg0 hg0 hs0)
    | fail)
  go_frame
  have d0 : Below w.heap.size w w0 := d2.grown hg0 d2.size (fun j hj => by cases hj)
  have kA0 := (hg0.block _ (heap_lt kA2) (by simp)).trans kA2
  have kB0 := (hg0.block _ (heap_lt kB2) (by simp)).trans kB2
  rw [z2] at hrg0 hs0 ⊢
  rw [hz.out, ← line_zero] at kB0
  clear d1 kA1 kB1 d2 own2 kB2 kA2 hg0 z2
  have hs0' : w.heap.size + 1 + 1 + 1 ≤ w0.heap.size := by omega
  clear hs0
  go_loopw [6] (fun _ wr => ∃ (left : Lit → Bool) (cnt : Nat) (g : Nat → Mg), wr.ranges Try.prog 38 bagR b (w.heap.size + 1 + 1) n D left cnt ∧ Below w.heap.size w wr ∧ wr.heap[w.heap.size]? = some (.cells Z 75 (0, 0)) ∧ wr.heap[w.heap.size + 1]? = some (.cells (lineC (lineG g)) 75 (0, 0)) ∧ LineS f left g ∧ (∀ kl, left kl = true → Maps.has D kl = true))
    (fun _ wr => wr.rangeLeft b (w.heap.size + 1 + 1))
  case atStart => exact ⟨_, _, _, hrg0, d0, kA0, kB0, LineS.start hB, fun _ h => h⟩
  case round =>
    clear hrg0 d0 kA0 kB0 hs0'
    obtain ⟨left, cnt, g, hrg, hd, kA, kB, hS, hsub⟩ := hrel
    have HS : Hid _ := hS
    have HSUB : Hid _ := hsub
    clear hS
    go_wp2_with (first
      | (at_next; refine wpList_next_bag _ rfl _ rfl b (w.heap.size + 1 + 1) n D f hB left cnt hsub rfl hrg ?_ ?_)
      | fail)
    · intro hl0
      rw [HS.out.done hf hl0] at kB
      have HI : Hid ((Try.prog.info? 75).map (·.size) = some (lineC (lineAt f)).size) := by rw [Hid, lineC_size, lineAt_len]; exact size60
      have HZ2 : Hid (Z.size = (lineC (lineAt f)).size) := by rw [Hid, hz.out, lineC_size, lineC_size, lineAt_len]; rfl
      have H1 : Hid _ := lineC_one (lineAt f)
      generalize hC : lineC (lineAt f) = C at *
      have HC : Hid (lineC (lineAt f) = C) := hC
      clear hC
      have HKA : Hid _ := kA
      have HKB : Hid _ := kB
      have hbS : Below w.heap.size w (wr.setRow w.heap.size C) := hd.trans (setRow_below (Nat.le_refl _))
      have hrow := setRow_row (cs := C) kA
      have HLD : Hid _ := run_loadVar_row (P := Try.prog) _ w.heap.size 75 75 C (0, 0) _ hrow Try.underlying75 rfl HI.out
      clear hrow kA kB hrg hd
      go_wp2_with (first | (with_reducible refine wpList_load_arr rfl _ 75 rfl (w.heap.size + 1) rfl C 75 (0, 0) HKB.out _ Try.underlying75 rfl HI.out ?_) | (with_reducible refine wpList_store_arr rfl _ _ 75 rfl w.heap.size rfl C rfl Z 75 HKA.out HI.out HZ2.out H1.out ?_))
      refine bodyPost_ret (v := .agg C) ?_ rfl ⟨by rw [HC.out], hbS⟩
      simp [results, Try.results45, asAddr, Act.put, HLD.out]
    · intro m c kl w1 cnt1 hfm hkm hlk hmask hrg1 hlt hg1 hs1 hen
      have hd1 : Below w.heap.size w w1 := hd.grown hg1 hd.size (fun j hj => by cases hj; omega)
      have kA1 := (hg1.block _ (heap_lt kA) (by simp; omega)).trans kA
      have kB1 := (hg1.block _ (heap_lt kB) (by simp)).trans kB
      have hlw := hrg1.lt
      have HM : Hid _ := And.intro hkm (And.intro hlk (And.intro hmask hlt))
      have HRG : Hid (wr.rangeLeft b (w.heap.size + 1 + 1) = cnt) := hrg.left_eq
      have hcs := hmask.1
      obtain ⟨kd, ds, vw, ⟨sq, cl, tg, ⟨k, nm, ot, at_, va, ep⟩⟩, s, rc, rv⟩ := m
      simp only [mgV] at hen ⊢
      have hA : Below w1.heap.size w1 (w1.alloc (.cells #[.int .i64 kd, .int .i64 ds, .int .i64 vw, .int .i64 sq, .int .i64 cl, .int .i64 tg, .int .i64 k, .string nm, .string ot, .int .i64 at_, .int .i64 va, .int .i64 ep, .int .i64 s, .int .i64 rc, .int .i64 rv] 38)) := bw_alloc (Below.refl _ _)
      have hdW := bw_call hd1 hA
      have kAW := (hA.block _ (heap_lt kA1)).trans kA1
      have kBW := (hA.block _ (heap_lt kB1)).trans kB1
      have kCW := heap_alloc_new w1 (.cells #[.int .i64 kd, .int .i64 ds, .int .i64 vw, .int .i64 sq, .int .i64 cl, .int .i64 tg, .int .i64 k, .string nm, .string ot, .int .i64 at_, .int .i64 va, .int .i64 ep, .int .i64 s, .int .i64 rc, .int .i64 rv] 38)
      have rW := ranges_below hrg1 hA
      rw [hs1] at kCW hlw
      clear hkm hlk hmask hrg1 hg1 hfm hrg hd kA kB kA1 kB1 hd1 hA
      go_wp2_with (first
        | (with_reducible refine wpList_store_arr rfl _ _ 38 rfl w1.heap.size rfl #[.int .i64 kd, .int .i64 ds, .int .i64 vw, .int .i64 sq, .int .i64 cl, .int .i64 tg, .int .i64 k, .string nm, .string ot, .int .i64 at_, .int .i64 va, .int .i64 ep, .int .i64 s, .int .i64 rc, .int .i64 rv] rfl _ 38 (heap_alloc_new w1 _) sizeMsg15 rfl rfl ?_)
        | fail)
      generalize w1.alloc (.cells #[.int .i64 kd, .int .i64 ds, .int .i64 vw, .int .i64 sq, .int .i64 cl, .int .i64 tg, .int .i64 k, .string nm, .string ot, .int .i64 at_, .int .i64 va, .int .i64 ep, .int .i64 s, .int .i64 rc, .int .i64 rv] 38) = W1 at *
      clear hen hs1
      generalize wr.heap.size = nC at *
      go_loopw [15] (fun i wr2 => ∃ q : Nat, q ≤ 60 ∧ i = .int .i64 q ∧ wr2.ranges Try.prog 38 bagR b (w.heap.size + 1 + 1) n D (fun z => left z && !z.sameKey kl) cnt1 ∧ Below w.heap.size w wr2 ∧ wr2.heap[w.heap.size]? = some (.cells Z 75 (0, 0)) ∧ wr2.heap[w.heap.size + 1]? = some (.cells (lineC (lineG (fun p => if p < q ∧ c.testBit p = true then ⟨kd, ds, vw, ⟨sq, cl, tg, ⟨k, nm, ot, at_, va, ep⟩⟩, s, rc, rv⟩ else g p))) 75 (0, 0)) ∧ wr2.heap[nC]? = some (.cells #[.int .i64 kd, .int .i64 ds, .int .i64 vw, .int .i64 sq, .int .i64 cl, .int .i64 tg, .int .i64 k, .string nm, .string ot, .int .i64 at_, .int .i64 va, .int .i64 ep, .int .i64 s, .int .i64 rc, .int .i64 rv] 38 (0, 0))) (fun i _ => 60 - (intOf i).toNat)
      case atStart => exact ⟨0, by omega, rfl, rW, hdW, kAW, by rw [lineG_same (g' := g) (fun p hp => by simp)]; exact kBW, kCW⟩
      case round =>
        clear rW hdW kAW kBW kCW
        obtain ⟨q, hq, rfl, hr2, hd2, kA2, kB2, kC2⟩ := hrel
        by_cases hlt2 : q < 60
        · have hq1 : (q : Int) < 60 := by omega
          have hq0 : (0 : Int) ≤ (q : Int) := by omega
          go_wp2_with fail
          refine (has_any c q hcs hlt2 _).mono ?_
          rintro e w3 ⟨rfl, rfl⟩
          cases hb : c.testBit q
          · have hg : lineG (fun p => if p < q + 1 ∧ c.testBit p = true then ⟨kd, ds, vw, ⟨sq, cl, tg, ⟨k, nm, ot, at_, va, ep⟩⟩, s, rc, rv⟩ else g p) = lineG (fun p => if p < q ∧ c.testBit p = true then ⟨kd, ds, vw, ⟨sq, cl, tg, ⟨k, nm, ot, at_, va, ep⟩⟩, s, rc, rv⟩ else g p) := lineG_same fun p hp => by
              by_cases e : p = q
              · subst e; simp [hb]
              · simp only [show (p < q + 1 ↔ p < q) by omega]
            rw [← hg] at kB2
            have HN : Hid _ := And.intro hr2 (And.intro hd2 (And.intro kA2 (And.intro kB2 kC2)))
            clear hr2 hd2 kA2 kB2 kC2 hb hg
            go_wp2_with fail
            go_roundw
            case rel => exact ⟨q + 1, by omega, by go_num, HN.out.1, HN.out.2.1, HN.out.2.2.1, HN.out.2.2.2.1, HN.out.2.2.2.2⟩
            case measure => simp [intOf]; omega
          · have hst := store60 w3 (w.heap.size + 1) _ q (by rw [lineG_len]; exact hlt2) ⟨kd, ds, vw, ⟨sq, cl, tg, ⟨k, nm, ot, at_, va, ep⟩⟩, s, rc, rv⟩ kB2
            rw [lineG_set _ q hlt2] at hst
            have hg : lineG (fun p => if p = q then ⟨kd, ds, vw, ⟨sq, cl, tg, ⟨k, nm, ot, at_, va, ep⟩⟩, s, rc, rv⟩ else if p < q ∧ c.testBit p = true then ⟨kd, ds, vw, ⟨sq, cl, tg, ⟨k, nm, ot, at_, va, ep⟩⟩, s, rc, rv⟩ else g p) = lineG (fun p => if p < q + 1 ∧ c.testBit p = true then ⟨kd, ds, vw, ⟨sq, cl, tg, ⟨k, nm, ot, at_, va, ep⟩⟩, s, rc, rv⟩ else g p) := lineG_same fun p hp => by
              by_cases e : p = q
              · subst e; simp [hb]
              · rw [if_neg e]
                simp only [show (p < q + 1 ↔ p < q) by omega]
            rw [hg] at hst
            simp only [mgV] at hst
            have kB3 := setRow_row (cs := lineC (lineG (fun p => if p < q + 1 ∧ c.testBit p = true then ⟨kd, ds, vw, ⟨sq, cl, tg, ⟨k, nm, ot, at_, va, ep⟩⟩, s, rc, rv⟩ else g p))) kB2
            have u3 := row_upto15 (w := w3) (g := w.heap.size + 1) (cs := lineC (lineG (fun p => if p < q + 1 ∧ c.testBit p = true then ⟨kd, ds, vw, ⟨sq, cl, tg, ⟨k, nm, ot, at_, va, ep⟩⟩, s, rc, rv⟩ else g p)))
            have kA3 := (u3.block _ (heap_lt kA2) (by omega)).trans kA2
            have kC3 := (u3.block _ (heap_lt kC2) (by omega)).trans kC2
            have hr3 := ranges_upto hr2 u3 (by omega) (by omega)
            have hd3 := hd2.trans (u3.toBelow hd2.size (by omega))
            have HN : Hid _ := And.intro hr3 (And.intro hd3 (And.intro kA3 (And.intro kB3 kC3)))
            have HKC : Hid _ := kC2
            have HI15 : Hid ((Try.prog.info? 38).map (·.size) = some (#[.int .i64 kd, .int .i64 ds, .int .i64 vw, .int .i64 sq, .int .i64 cl, .int .i64 tg, .int .i64 k, .string nm, .string ot, .int .i64 at_, .int .i64 va, .int .i64 ep, .int .i64 s, .int .i64 rc, .int .i64 rv] : Array Value).size) := sizeMsg15
            have HST : Hid _ := hst
            clear hr2 hd2 kA2 kB2 kC2 hb hg hr3 hd3 kA3 kB3 kC3 u3 hst
            generalize hC3 : lineC (lineG (fun p => if p < q + 1 ∧ c.testBit p = true then ⟨kd, ds, vw, ⟨sq, cl, tg, ⟨k, nm, ot, at_, va, ep⟩⟩, s, rc, rv⟩ else g p)) = C3 at *
            have HC3 : Hid (lineC (lineG (fun p => if p < q + 1 ∧ c.testBit p = true then ⟨kd, ds, vw, ⟨sq, cl, tg, ⟨k, nm, ot, at_, va, ep⟩⟩, s, rc, rv⟩ else g p)) = C3) := hC3
            clear hC3
            go_wp2_with (first
              | (with_reducible refine wpList_load_arr rfl _ 38 rfl nC rfl #[.int .i64 kd, .int .i64 ds, .int .i64 vw, .int .i64 sq, .int .i64 cl, .int .i64 tg, .int .i64 k, .string nm, .string ot, .int .i64 at_, .int .i64 va, .int .i64 ep, .int .i64 s, .int .i64 rc, .int .i64 rv] 38 (0, 0) HKC.out _ Try.underlying38 rfl HI15.out ?_)
              | (with_reducible refine wpList_storeAt_of rfl _ _ 38 rfl (.pointer (some ⟨w.heap.size + 1, q * 15, none⟩)) (.agg #[.int .i64 kd, .int .i64 ds, .int .i64 vw, .int .i64 sq, .int .i64 cl, .int .i64 tg, .int .i64 k, .string nm, .string ot, .int .i64 at_, .int .i64 va, .int .i64 ep, .int .i64 s, .int .i64 rc, .int .i64 rv]) rfl rfl _ HST.out ?_)
              | fail)
            go_roundw
            case rel => exact ⟨q + 1, by omega, by go_num, HN.out.1, HN.out.2.1, HN.out.2.2.1, by rw [HC3.out]; exact HN.out.2.2.2.1, HN.out.2.2.2.2⟩
            case measure => simp [intOf]; omega
        · obtain rfl : q = 60 := by omega
          have HN : Hid _ := And.intro hr2 (And.intro hd2 (And.intro kA2 kB2))
          have hcnt := hr2.left_eq
          clear hr2 hd2 kA2 kB2 kC2
          go_wp2_with fail
          go_roundw
          case rel => exact ⟨_, cnt1, _, HN.out.1, HN.out.2.1, HN.out.2.2.1, HN.out.2.2.2, HS.out.step HM.out.1 HM.out.2.1 HM.out.2.2.1, fun kl' h => HSUB.out kl' (Bool.and_eq_true_iff.1 h).1⟩
          case measure => rw [hcnt, HRG.out]; exact HM.out.2.2.2
end Go.Proofs.Ytgabhnhfomekfaa

