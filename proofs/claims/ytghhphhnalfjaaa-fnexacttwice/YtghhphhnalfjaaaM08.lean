/-
  Contracts and plain laws, one chapter behind the other.
-/
import Derived.Laws.CopyRow
import Derived.Lib.Strings
import Derived.Shelf.LaysM
import Derived.Shelf.Strconv.Clone
import Derived.Deep.RegionLaw
import Derived.WalkKit
import Derived.Tactics2
import Derived.ScopeJumps
import Derived.WalkMore
import Derived.Deep.Cut
import Derived.Test.YtghhphhnalfjaaaM01
import Derived.Test.YtghhphhnalfjaaaM02
import Derived.Test.YtghhphhnalfjaaaM03
import Derived.Test.YtghhphhnalfjaaaM05
import Derived.Test.YtghhphhnalfjaaaM07
namespace Go.Proofs.Ytghhphhnalfjaaa
open Go.RowKit

set_option linter.unusedVariables false

set_option maxRecDepth 100000


theorem flat_take15 : ∀ (l : List Mg) (i : Nat), (l.flatMap mgC).take (i * 15) = (l.take i).flatMap mgC
  | [], i => by simp
  | x :: r, 0 => by simp
  | x :: r, i + 1 => by
    rw [List.flatMap_cons, List.take_succ_cons, List.flatMap_cons, List.take_append, mgC_len, List.take_of_length_le (by rw [mgC_len]; omega), show (i + 1) * 15 - 15 = i * 15 by omega, flat_take15 r i]

theorem flat_drop15 : ∀ (l : List Mg) (i : Nat), (l.flatMap mgC).drop (i * 15) = (l.drop i).flatMap mgC
  | [], i => by simp
  | x :: r, 0 => by simp
  | x :: r, i + 1 => by
    rw [List.flatMap_cons, List.drop_succ_cons, List.drop_append, mgC_len, List.drop_of_length_le (by rw [mgC_len]; omega), show (i + 1) * 15 - 15 = i * 15 by omega, flat_drop15 r i, List.nil_append]

theorem flat_put15 (l : List Mg) (i : Nat) (hi : i < l.length) (m : Mg) : (l.flatMap mgC).take (i * 15) ++ mgC m ++ (l.flatMap mgC).drop ((i + 1) * 15) = (l.set i m).flatMap mgC := by
  rw [flat_take15, flat_drop15, List.set_eq_take_append_cons_drop, if_pos hi, List.flatMap_append, List.flatMap_cons, List.append_assoc]

theorem store60 (w : World) (g : Nat) (l : List Mg) (i : Nat) (hi : i < l.length) (m : Mg) (hg : w.heap[g]? = some (.cells (lineC l) 110 (0, 0))) :
    (Instr.storeAt 38 (.pointer (some ⟨g, i * 15, none⟩)) (mgV m)).run Try.prog w = .ok () (w.setRow g (lineC (l.set i m))) := by
  have h := run_storeCells_at (P := Try.prog) g (i * 15) 110 (mgC m) 0 (lineC l) w hg (by rw [lineC_size, mgC_len]; omega) (fun v hv => msgs_one [m] v (by simpa using hv))
  have e : ((lineC l).toList.take (i * 15 + 0) ++ mgC m ++ (lineC l).toList.drop (i * 15 + 0 + (mgC m).length)).toArray = lineC (l.set i m) := by
    have e1 : (lineC l).toList = l.flatMap mgC := rfl
    rw [e1, mgC_len, Nat.add_zero, show i * 15 + 15 = (i + 1) * 15 by omega, flat_put15 l i hi m]
    rfl
  rw [e] at h
  have h15 := sizeMsg15
  cases hq : Try.prog.info? 38 with
  | none => rw [hq] at h15; cases h15
  | some i0 =>
    rw [hq] at h15
    simp only [Option.map_some, Option.some.injEq] at h15
    have hc : (mgV m).cells.toList = mgC m := rfl
    have hs : (mgV m).cells.size = 15 := rfl
    simp [Instr.storeAt, Instr.sureAddr, storeVar, sizeOf, typeInfo, hq, h15, hs, hc, h]

theorem row_upto15 {w : World} {g : Nat} {cs : Array Value} : Upto g w (w.setRow g cs) := by
  refine ⟨rfl, rfl, rfl, by simp [World.setRow], fun k hk hne => ?_⟩
  simp only [World.setRow, Array.getElem?_modify]
  rw [if_neg (fun e => hne e.symm)]

/-- A line by what stands at each place. -/
def lineG (g : Nat → Mg) : List Mg := (List.range 60).map g

theorem lineG_len (g : Nat → Mg) : (lineG g).length = 60 := by simp [lineG]

theorem lineG_set (g : Nat → Mg) (k : Nat) (hk : k < 60) (m : Mg) : (lineG g).set k m = lineG (fun p => if p = k then m else g p) := by
  apply List.ext_getElem?
  intro i
  unfold lineG
  rw [List.getElem?_set, List.getElem?_map, List.getElem?_map]
  by_cases e : k = i
  · subst e
    rw [if_pos rfl, List.getElem?_range hk]
    simp [hk]
  · rw [if_neg e]
    by_cases h60 : i < 60
    · rw [List.getElem?_range h60]
      simp [Ne.symm e]
    · rw [List.getElem?_eq_none (by simp; omega)]
      rfl

theorem lineG_same {g g' : Nat → Mg} (h : ∀ p, p < 60 → g p = g' p) : lineG g = lineG g' := by
  unfold lineG
  refine List.map_congr_left fun p hp => h p (List.mem_range.1 hp)

theorem line_zero : lineG (fun _ => Mg.zero) = zeros60 := by
  unfold lineG zeros60
  rw [List.map_const', List.length_range]

theorem lineAt_G (f : Nat → Option Mg) : lineAt f = lineG (fun p => (f p).getD Mg.zero) := rfl

/-- What a line has when the letters in 'left' are still to come. -/
structure LineS (f : Nat → Option Mg) (left : Lit → Bool) (g : Nat → Mg) : Prop where
  no : ∀ p, p < 60 → f p = none → g p = Mg.zero
  hs : ∀ p m kl, p < 60 → f p = some m → keyOf Try.prog 38 (mgV m) = some kl → g p = if left kl = true then Mg.zero else m

theorem LineS.start {D : DataW Unit} {f : Nat → Option Mg} (hB : BagD D f) : LineS f (Maps.has D) (fun _ => Mg.zero) :=
  ⟨fun _ _ _ => rfl, fun p m kl hp hf hk => by rw [if_pos (hB.all p m kl hp hf hk)]⟩

theorem LineS.step {f : Nat → Option Mg} {left : Lit → Bool} {g : Nat → Mg} (h : LineS f left g) {m : Mg} {kl : Lit} {c : Nat} (hk : keyOf Try.prog 38 (mgV m) = some kl) (hl : left kl = true) (hm : MaskOf c f m) :
    LineS f (fun z => left z && !z.sameKey kl) (fun p => if p < 60 ∧ c.testBit p = true then m else g p) := by
  have hK := bagKeys.key hk
  refine ⟨fun p hp hf => ?_, fun p m' kl' hp hf hk' => ?_⟩
  · have h1 : c.testBit p = false := by
      rw [Bool.eq_false_iff]
      intro q
      have := ((hm.2 p).1 q).2
      rw [hf] at this
      cases this
    simp only [h1, Bool.false_eq_true, and_false, if_false]
    exact h.no p hp hf
  · by_cases e : m' = m
    · subst e
      rw [hk] at hk'
      cases hk'
      have h1 : c.testBit p = true := (hm.2 p).2 ⟨hp, hf⟩
      simp only [h1, hp, and_self, if_true, WideAt.sameKey_self hK, Bool.not_true, Bool.and_false, Bool.false_eq_true, if_false]
    · have h1 : c.testBit p = false := by
        rw [Bool.eq_false_iff]
        intro q
        have := ((hm.2 p).1 q).2
        rw [hf] at this
        cases this
        exact e rfl
      have h2 : kl' ≠ kl := fun q => by subst q; exact e (key_same hk' hk)
      simp only [h1, Bool.false_eq_true, and_false, if_false, Maps.sameKey_ne h2, Bool.not_false, Bool.and_true]
      exact h.hs p m' kl' hp hf hk'

theorem LineS.done {f : Nat → Option Mg} {left : Lit → Bool} {g : Nat → Mg} (h : LineS f left g) (hf : ∀ p m, p < 60 → f p = some m → FitMsg m) (h0 : ∀ kl, left kl = false) : lineG g = lineAt f := by
  rw [lineAt_G]
  refine lineG_same fun p hp => ?_
  cases hfp : f p with
  | none => exact h.no p hp hfp
  | some m =>
    obtain ⟨kl, hk⟩ := key_of (hf p m hp hfp)
    rw [h.hs p m kl hp hfp hk, h0, if_neg (by simp)]
    rfl

set_option maxHeartbeats 3200000 in
theorem line_any (b n : Nat) (f : Nat → Option Mg) (w : World) (T : BagW w b n f) (hf : ∀ p m, p < 60 → f p = some m → FitMsg m) :
    Calls Try.prog 77 #[.map (some b)] w fun e w' => e = .returned (.agg (lineC (lineAt f))) ∧ Below w.heap.size w w' := by
  have hbw := T.lt
  obtain ⟨D, own, hB⟩ := T.ex
  clear T
  obtain ⟨Z, hZ⟩ : ∃ Z, Try.zeroCells110 = Z := ⟨_, rfl⟩
  have hz : Hid (Z = lineC zeros60) := hZ.symm.trans zc60
  have HIZ : (Try.prog.info? 110).map (·.size) = some Z.size := by rw [hz.out, lineC_size, show zeros60.length * 15 = 900 from rfl]; exact size60
  have HOZ : Z.all (·.oneCell') = true := by rw [hz.out]; exact lineC_one _
  have d1 : Below w.heap.size w ((w.alloc (.cells Z 110)).alloc (.cells Z 110)) := bw_alloc (bw_alloc (Below.refl _ _))
  have kA1 : ((w.alloc (.cells Z 110)).alloc (.cells Z 110)).heap[w.heap.size]? = some (.cells Z 110 (0, 0)) :=
    ((bw_alloc (o := .cells Z 110) (Below.refl (w.alloc (.cells Z 110)).heap.size (w.alloc (.cells Z 110)))).block w.heap.size (by simp)).trans (heap_alloc_new w _)
  have kB1 : ((w.alloc (.cells Z 110)).alloc (.cells Z 110)).heap[w.heap.size + 1]? = some (.cells Z 110 (0, 0)) := by
    have h := heap_alloc_new (w.alloc (.cells Z 110)) (.cells Z 110)
    rwa [show (w.alloc (.cells Z 110)).heap.size = w.heap.size + 1 by simp] at h
  have d2 : Below w.heap.size w (((w.alloc (.cells Z 110)).alloc (.cells Z 110)).setRow (w.heap.size + 1) Z) := d1.trans (setRow_below (by omega))
  have own2 := map_of_block own (d2.block b hbw)
  have kB2 := setRow_row (cs := Z) kB1
  have kA2 : (((w.alloc (.cells Z 110)).alloc (.cells Z 110)).setRow (w.heap.size + 1) Z).heap[w.heap.size]? = some (.cells Z 110 (0, 0)) :=
    ((row_upto15 (w := (w.alloc (.cells Z 110)).alloc (.cells Z 110)) (g := w.heap.size + 1) (cs := Z)).block w.heap.size (heap_lt kA1) (by omega)).trans kA1
  have z2 : (((w.alloc (.cells Z 110)).alloc (.cells Z 110)).setRow (w.heap.size + 1) Z).heap.size = w.heap.size + 1 + 1 := by simp [World.setRow]
  go_enter Try.func77, Try.ntmps77
  go_wp2_with (first
    | (with_reducible refine wpList_store_arr rfl _ _ 110 rfl (w.heap.size + 1) rfl Z rfl Z 110 kB1 HIZ rfl HOZ ?_)
    | (at_range; refine wpList_range_own _ rfl _ 68 rfl 38 107 bagKeys Try.underlying68 bagR b n D rfl own2 ?_; intro w0 hrg0 hg0 hs0)
    | fail)
  go_frame
  have d0 : Below w.heap.size w w0 := d2.grown hg0 d2.size (fun j hj => by cases hj)
  have kA0 := (hg0.block _ (heap_lt kA2) (by simp)).trans kA2
  have kB0 := (hg0.block _ (heap_lt kB2) (by simp)).trans kB2
  rw [z2] at hrg0 hs0 ⊢
  rw [hz.out, ← line_zero] at kB0
  clear d1 kA1 kB1 d2 own2 kB2 kA2 hg0 z2
  have hs0' : w.heap.size + 1 + 1 + 1 ≤ w0.heap.size := by omega
  clear hs0
  go_loopw [6] (fun _ wr => ∃ (left : Lit → Bool) (cnt : Nat) (g : Nat → Mg), wr.ranges Try.prog 38 bagR b (w.heap.size + 1 + 1) n D left cnt ∧ Below w.heap.size w wr ∧ wr.heap[w.heap.size]? = some (.cells Z 110 (0, 0)) ∧ wr.heap[w.heap.size + 1]? = some (.cells (lineC (lineG g)) 110 (0, 0)) ∧ LineS f left g ∧ (∀ kl, left kl = true → Maps.has D kl = true))
    (fun _ wr => wr.rangeLeft b (w.heap.size + 1 + 1))
  case atStart => exact ⟨_, _, _, hrg0, d0, kA0, kB0, LineS.start hB, fun _ h => h⟩
  case round =>
    clear hrg0 d0 kA0 kB0 hs0'
    obtain ⟨left, cnt, g, hrg, hd, kA, kB, hS, hsub⟩ := hrel
    have HS : Hid _ := hS
    have HSUB : Hid _ := hsub
    clear hS
    go_wp2_with (first
      | (at_next; refine wpList_next_bag _ rfl _ rfl b (w.heap.size + 1 + 1) n D f hB left cnt hsub rfl hrg ?_ ?_)
      | fail)
    · intro hl0
      rw [HS.out.done hf hl0] at kB
      have HI : Hid ((Try.prog.info? 110).map (·.size) = some (lineC (lineAt f)).size) := by rw [Hid, lineC_size, lineAt_len]; exact size60
      have HZ2 : Hid (Z.size = (lineC (lineAt f)).size) := by rw [Hid, hz.out, lineC_size, lineC_size, lineAt_len]; rfl
      have H1 : Hid _ := lineC_one (lineAt f)
      generalize hC : lineC (lineAt f) = C at *
      have HC : Hid (lineC (lineAt f) = C) := hC
      clear hC
      have HKA : Hid _ := kA
      have HKB : Hid _ := kB
      have hbS : Below w.heap.size w (wr.setRow w.heap.size C) := hd.trans (setRow_below (Nat.le_refl _))
      have hrow := setRow_row (cs := C) kA
      have HLD : Hid _ := run_loadVar_row (P := Try.prog) _ w.heap.size 110 110 C (0, 0) _ hrow Try.underlying110 rfl HI.out
      clear hrow kA kB hrg hd
      go_wp2_with (first | (with_reducible refine wpList_load_arr rfl _ 110 rfl (w.heap.size + 1) rfl C 110 (0, 0) HKB.out _ Try.underlying110 rfl HI.out ?_) | (with_reducible refine wpList_store_arr rfl _ _ 110 rfl w.heap.size rfl C rfl Z 110 HKA.out HI.out HZ2.out H1.out ?_))
      refine bodyPost_ret (v := .agg C) ?_ rfl ⟨by rw [HC.out], hbS⟩
      simp [results, Try.results77, asAddr, Act.put, HLD.out]
    · intro m c kl w1 cnt1 hfm hkm hlk hmask hrg1 hlt hg1 hs1 hen
      have hd1 : Below w.heap.size w w1 := hd.grown hg1 hd.size (fun j hj => by cases hj; omega)
      have kA1 := (hg1.block _ (heap_lt kA) (by simp; omega)).trans kA
      have kB1 := (hg1.block _ (heap_lt kB) (by simp)).trans kB
      have hlw := hrg1.lt
      have HM : Hid _ := And.intro hkm (And.intro hlk (And.intro hmask hlt))
      have HRG : Hid (wr.rangeLeft b (w.heap.size + 1 + 1) = cnt) := hrg.left_eq
      have hcs := hmask.1
      obtain ⟨kd, ds, vw, ⟨sq, cl, tg, ⟨k, nm, ot, at_, va, ep⟩⟩, s, rc, rv⟩ := m
      simp only [mgV] at hen ⊢
      have hA : Below w1.heap.size w1 (w1.alloc (.cells #[.int .i64 kd, .int .i64 ds, .int .i64 vw, .int .i64 sq, .int .i64 cl, .int .i64 tg, .int .i64 k, .string nm, .string ot, .int .i64 at_, .int .i64 va, .int .i64 ep, .int .i64 s, .int .i64 rc, .int .i64 rv] 38)) := bw_alloc (Below.refl _ _)
      have hdW := bw_call hd1 hA
      have kAW := (hA.block _ (heap_lt kA1)).trans kA1
      have kBW := (hA.block _ (heap_lt kB1)).trans kB1
      have kCW := heap_alloc_new w1 (.cells #[.int .i64 kd, .int .i64 ds, .int .i64 vw, .int .i64 sq, .int .i64 cl, .int .i64 tg, .int .i64 k, .string nm, .string ot, .int .i64 at_, .int .i64 va, .int .i64 ep, .int .i64 s, .int .i64 rc, .int .i64 rv] 38)
      have rW := ranges_below hrg1 hA
      rw [hs1] at kCW hlw
      clear hkm hlk hmask hrg1 hg1 hfm hrg hd kA kB kA1 kB1 hd1 hA
      go_wp2_with (first
        | (with_reducible refine wpList_store_arr rfl _ _ 38 rfl w1.heap.size rfl #[.int .i64 kd, .int .i64 ds, .int .i64 vw, .int .i64 sq, .int .i64 cl, .int .i64 tg, .int .i64 k, .string nm, .string ot, .int .i64 at_, .int .i64 va, .int .i64 ep, .int .i64 s, .int .i64 rc, .int .i64 rv] rfl _ 38 (heap_alloc_new w1 _) sizeMsg15 rfl rfl ?_)
        | fail)
      generalize w1.alloc (.cells #[.int .i64 kd, .int .i64 ds, .int .i64 vw, .int .i64 sq, .int .i64 cl, .int .i64 tg, .int .i64 k, .string nm, .string ot, .int .i64 at_, .int .i64 va, .int .i64 ep, .int .i64 s, .int .i64 rc, .int .i64 rv] 38) = W1 at *
      clear hen hs1
      generalize wr.heap.size = nC at *
      go_loopw [15] (fun i wr2 => ∃ q : Nat, q ≤ 60 ∧ i = .int .i64 q ∧ wr2.ranges Try.prog 38 bagR b (w.heap.size + 1 + 1) n D (fun z => left z && !z.sameKey kl) cnt1 ∧ Below w.heap.size w wr2 ∧ wr2.heap[w.heap.size]? = some (.cells Z 110 (0, 0)) ∧ wr2.heap[w.heap.size + 1]? = some (.cells (lineC (lineG (fun p => if p < q ∧ c.testBit p = true then ⟨kd, ds, vw, ⟨sq, cl, tg, ⟨k, nm, ot, at_, va, ep⟩⟩, s, rc, rv⟩ else g p))) 110 (0, 0)) ∧ wr2.heap[nC]? = some (.cells #[.int .i64 kd, .int .i64 ds, .int .i64 vw, .int .i64 sq, .int .i64 cl, .int .i64 tg, .int .i64 k, .string nm, .string ot, .int .i64 at_, .int .i64 va, .int .i64 ep, .int .i64 s, .int .i64 rc, .int .i64 rv] 38 (0, 0))) (fun i _ => 60 - (intOf i).toNat)
      case atStart => exact ⟨0, by omega, rfl, rW, hdW, kAW, by rw [lineG_same (g' := g) (fun p hp => by simp)]; exact kBW, kCW⟩
      case round =>
        clear rW hdW kAW kBW kCW
        obtain ⟨q, hq, rfl, hr2, hd2, kA2, kB2, kC2⟩ := hrel
        by_cases hlt2 : q < 60
        · have hq1 : (q : Int) < 60 := by omega
          have hq0 : (0 : Int) ≤ (q : Int) := by omega
          go_wp2_with fail
          refine (has_any c q hcs hlt2 _).mono ?_
          rintro e w3 ⟨rfl, rfl⟩
          cases hb : c.testBit q
          · have hg : lineG (fun p => if p < q + 1 ∧ c.testBit p = true then ⟨kd, ds, vw, ⟨sq, cl, tg, ⟨k, nm, ot, at_, va, ep⟩⟩, s, rc, rv⟩ else g p) = lineG (fun p => if p < q ∧ c.testBit p = true then ⟨kd, ds, vw, ⟨sq, cl, tg, ⟨k, nm, ot, at_, va, ep⟩⟩, s, rc, rv⟩ else g p) := lineG_same fun p hp => by
              by_cases e : p = q
              · subst e; simp [hb]
              · simp only [show (p < q + 1 ↔ p < q) by omega]
            rw [← hg] at kB2
            have HN : Hid _ := And.intro hr2 (And.intro hd2 (And.intro kA2 (And.intro kB2 kC2)))
            clear hr2 hd2 kA2 kB2 kC2 hb hg
            go_wp2_with fail
            go_roundw
            case rel => exact ⟨q + 1, by omega, by go_num, HN.out.1, HN.out.2.1, HN.out.2.2.1, HN.out.2.2.2.1, HN.out.2.2.2.2⟩
            case measure => simp [intOf]; omega
          · have hst := store60 w3 (w.heap.size + 1) _ q (by rw [lineG_len]; exact hlt2) ⟨kd, ds, vw, ⟨sq, cl, tg, ⟨k, nm, ot, at_, va, ep⟩⟩, s, rc, rv⟩ kB2
            rw [lineG_set _ q hlt2] at hst
            have hg : lineG (fun p => if p = q then ⟨kd, ds, vw, ⟨sq, cl, tg, ⟨k, nm, ot, at_, va, ep⟩⟩, s, rc, rv⟩ else if p < q ∧ c.testBit p = true then ⟨kd, ds, vw, ⟨sq, cl, tg, ⟨k, nm, ot, at_, va, ep⟩⟩, s, rc, rv⟩ else g p) = lineG (fun p => if p < q + 1 ∧ c.testBit p = true then ⟨kd, ds, vw, ⟨sq, cl, tg, ⟨k, nm, ot, at_, va, ep⟩⟩, s, rc, rv⟩ else g p) := lineG_same fun p hp => by
              by_cases e : p = q
              · subst e; simp [hb]
              · rw [if_neg e]
                simp only [show (p < q + 1 ↔ p < q) by omega]
            rw [hg] at hst
            simp only [mgV] at hst
            have kB3 := setRow_row (cs := lineC (lineG (fun p => if p < q + 1 ∧ c.testBit p = true then ⟨kd, ds, vw, ⟨sq, cl, tg, ⟨k, nm, ot, at_, va, ep⟩⟩, s, rc, rv⟩ else g p))) kB2
            have u3 := row_upto15 (w := w3) (g := w.heap.size + 1) (cs := lineC (lineG (fun p => if p < q + 1 ∧ c.testBit p = true then ⟨kd, ds, vw, ⟨sq, cl, tg, ⟨k, nm, ot, at_, va, ep⟩⟩, s, rc, rv⟩ else g p)))
            have kA3 := (u3.block _ (heap_lt kA2) (by omega)).trans kA2
            have kC3 := (u3.block _ (heap_lt kC2) (by omega)).trans kC2
            have hr3 := ranges_upto hr2 u3 (by omega) (by omega)
            have hd3 := hd2.trans (u3.toBelow hd2.size (by omega))
            have HN : Hid _ := And.intro hr3 (And.intro hd3 (And.intro kA3 (And.intro kB3 kC3)))
            have HKC : Hid _ := kC2
            have HI15 : Hid ((Try.prog.info? 38).map (·.size) = some (#[.int .i64 kd, .int .i64 ds, .int .i64 vw, .int .i64 sq, .int .i64 cl, .int .i64 tg, .int .i64 k, .string nm, .string ot, .int .i64 at_, .int .i64 va, .int .i64 ep, .int .i64 s, .int .i64 rc, .int .i64 rv] : Array Value).size) := sizeMsg15
            have HST : Hid _ := hst
            clear hr2 hd2 kA2 kB2 kC2 hb hg hr3 hd3 kA3 kB3 kC3 u3 hst
            generalize hC3 : lineC (lineG (fun p => if p < q + 1 ∧ c.testBit p = true then ⟨kd, ds, vw, ⟨sq, cl, tg, ⟨k, nm, ot, at_, va, ep⟩⟩, s, rc, rv⟩ else g p)) = C3 at *
            have HC3 : Hid (lineC (lineG (fun p => if p < q + 1 ∧ c.testBit p = true then ⟨kd, ds, vw, ⟨sq, cl, tg, ⟨k, nm, ot, at_, va, ep⟩⟩, s, rc, rv⟩ else g p)) = C3) := hC3
            clear hC3
            go_wp2_with (first
              | (with_reducible refine wpList_load_arr rfl _ 38 rfl nC rfl #[.int .i64 kd, .int .i64 ds, .int .i64 vw, .int .i64 sq, .int .i64 cl, .int .i64 tg, .int .i64 k, .string nm, .string ot, .int .i64 at_, .int .i64 va, .int .i64 ep, .int .i64 s, .int .i64 rc, .int .i64 rv] 38 (0, 0) HKC.out _ Try.underlying38 rfl HI15.out ?_)
              | (with_reducible refine wpList_storeAt_of rfl _ _ 38 rfl (.pointer (some ⟨w.heap.size + 1, q * 15, none⟩)) (.agg #[.int .i64 kd, .int .i64 ds, .int .i64 vw, .int .i64 sq, .int .i64 cl, .int .i64 tg, .int .i64 k, .string nm, .string ot, .int .i64 at_, .int .i64 va, .int .i64 ep, .int .i64 s, .int .i64 rc, .int .i64 rv]) rfl rfl _ HST.out ?_)
              | fail)
            go_roundw
            case rel => exact ⟨q + 1, by omega, by go_num, HN.out.1, HN.out.2.1, HN.out.2.2.1, by rw [HC3.out]; exact HN.out.2.2.2.1, HN.out.2.2.2.2⟩
            case measure => simp [intOf]; omega
        · obtain rfl : q = 60 := by omega
          have HN : Hid _ := And.intro hr2 (And.intro hd2 (And.intro kA2 kB2))
          have hcnt := hr2.left_eq
          clear hr2 hd2 kA2 kB2 kC2
          go_wp2_with fail
          go_roundw
          case rel => exact ⟨_, cnt1, _, HN.out.1, HN.out.2.1, HN.out.2.2.1, HN.out.2.2.2, HS.out.step HM.out.1 HM.out.2.1 HM.out.2.2.1, fun kl' h => HSUB.out kl' (Bool.and_eq_true_iff.1 h).1⟩
          case measure => rw [hcnt, HRG.out]; exact HM.out.2.2.2
end Go.Proofs.Ytghhphhnalfjaaa

namespace Go.Proofs.Ytghhphhnalfjaaa
open Go.RowKit

set_option linter.unusedVariables false

set_option maxRecDepth 100000

/-- The library's own contract of the copy, at this program's numbers. -/
def cloneRen : Go.Shelf.Ren := ⟨fun | 316 => 103 | n => n, fun | 9 => 9 | 3 => 3 | 4 => 4 | 37 => 22 | 0 => 0 | 127 => 146 | 5 => 5 | n => n, fun | n => n⟩

theorem cloneLays : Go.Proofs.LaysM.n316 Try.prog cloneRen where
  mixed := by kernel_rfl
  f316 := Try.func103.trans (congrArg some (by kernel_rfl))
  t0 := Try.underlying0
  a0 := Try.isAgg0
  z0 := Try.sizeOf0
  v0 := Try.zeroValue0
  i0 := by kernel_rfl
  t3 := Try.underlying3
  a3 := Try.isAgg3
  z3 := Try.sizeOf3
  v3 := Try.zeroValue3
  i3 := by kernel_rfl
  t4 := Try.underlying4
  a4 := Try.isAgg4
  z4 := Try.sizeOf4
  v4 := Try.zeroValue4
  i4 := by kernel_rfl
  t9 := Try.underlying9
  a9 := Try.isAgg9
  z9 := Try.sizeOf9
  v9 := Try.zeroValue9
  i9 := by kernel_rfl
  t37 := Try.underlying22
  a37 := Try.isAgg22
  z37 := Try.sizeOf22
  v37 := Try.zeroValue22
  i37 := by kernel_rfl
  t127 := Try.underlying146
  a127 := Try.isAgg146
  z127 := Try.sizeOf146
  v127 := Try.zeroValue146
  i127 := by kernel_rfl
  t5 := Try.underlying5
  a5 := Try.isAgg5
  z5 := Try.sizeOf5
  v5 := Try.zeroValue5
  i5 := by kernel_rfl

theorem liteClone_any (s : ByteArray) (w : World) (hs : s.size ≤ 1099511627776) :
    Calls Try.prog 103 #[.string s] w fun e w' => e = .returned (.string s) ∧ Below w.heap.size w w' := Any.stringslite_Clone cloneLays s w (by omega)

theorem clone_any (s : ByteArray) (w : World) (hs : s.size ≤ 1099511627776) :
    Calls Try.prog 98 #[.string s] w fun e w' => e = .returned (.string s) ∧ Below w.heap.size w w' := by
  go_enter Try.func98, Try.ntmps98
  go_wp2_with fail
  refine (liteClone_any s _ hs).mono ?_
  rintro e w1 ⟨rfl, b1⟩
  go_wp2_with fail
  go_ret
  exact ⟨rfl, b1⟩
end Go.Proofs.Ytghhphhnalfjaaa

namespace Go.Proofs.Ytghhphhnalfjaaa
open Go.RowKit

set_option linter.unusedVariables false

set_option maxRecDepth 100000


/-- The last run ends at the size or ahead of it. -/
def endsBy (rs : List (Int × Int × Int)) (sz : Int) : Bool := match rs.getLast? with
  | none => true
  | some r => decide (r.1 + r.2.1 ≤ sz)

def bookOk (nm : ByteArray) (sz : Int) (rs : List (Int × Int × Int)) (ep : Int) : Bool :=
  Nums.nameB nm.data.toList && (decide (1 ≤ sz) && decide (sz ≤ 16)) && (decide (0 ≤ ep) && decide (ep ≤ 1000)) && mapOk rs && endsBy rs sz
end Go.Proofs.Ytghhphhnalfjaaa

namespace Go.Proofs.Ytghhphhnalfjaaa
open Go.RowKit

set_option linter.unusedVariables false

set_option maxRecDepth 100000


/-- A book: its cells, and the runs that its map reads. -/
structure Bk where
  nm : ByteArray
  sz : Int
  m : Value
  rs : List (Int × Int × Int)
  fx : Bool
  ep : Int

def bookC (b : Bk) : List Value := [.string b.nm, .int .i64 b.sz, b.m, .bool b.fx, .int .i64 b.ep]

/-- A row of books that is read, the maps too. -/
structure ReadsB (B : Nat) (w : World) (v : Value) (bs : List Bk) : Prop where
  row : ReadsR 5 bookC B w v bs
  maps : ∀ b ∈ bs, ReadsR 3 runC B w b.m b.rs

theorem ReadsB.below {B : Nat} {w w' : World} {v : Value} {bs : List Bk} (h : ReadsB B w v bs) (k : Below B w w') : ReadsB B w' v bs := ⟨h.row.below k, fun b hb => (h.maps b hb).below k⟩

theorem ReadsB.mono {B B' : Nat} {w : World} {v : Value} {bs : List Bk} (h : ReadsB B w v bs) (k : B ≤ B') : ReadsB B' w v bs := ⟨h.row.mono k, fun b hb => (h.maps b hb).mono k⟩
end Go.Proofs.Ytghhphhnalfjaaa

namespace Go.Proofs.Ytghhphhnalfjaaa
open Go.RowKit

set_option linter.unusedVariables false

set_option maxRecDepth 100000

theorem toList_inj {a b : ByteArray} (h : a.toList = b.toList) : a = b := by
  apply ext_list
  rwa [ByteArray.toList_eq, ByteArray.toList_eq] at h

/-! ### Books, counted -/
structure Pb where
  nm : ByteArray
  sz : Int
  rs : List (Int × Int × Int)
  fx : Bool
  ep : Int

def Pb.ok (b : Pb) : Bool := bookOk b.nm b.sz b.rs b.ep
end Go.Proofs.Ytghhphhnalfjaaa

namespace Go.Proofs.Ytghhphhnalfjaaa
open Go.RowKit

set_option linter.unusedVariables false

set_option maxRecDepth 100000


theorem nine_two (x0 x1 x2 x3 x4 x5 x6 x7 x8 z4 z5 : Value) : ((#[x0, x1, x2, x3, x4, x5, x6, x7, x8].setIfInBounds 4 z4).setIfInBounds 5 z5) = #[x0, x1, x2, x3, z4, z5, x6, x7, x8] := by
  apply Array.toList_inj.1
  simp only [Array.toList_setIfInBounds, List.set_cons_zero, List.set_cons_succ]

theorem nine_all (x0 x1 x2 x3 x4 x5 x6 x7 x8 z0 z1 z2 z3 z4 z5 z6 z7 z8 : Value) : (((((((((#[x0, x1, x2, x3, x4, x5, x6, x7, x8].setIfInBounds 0 z0).setIfInBounds 1 z1).setIfInBounds 2 z2).setIfInBounds 3 z3).setIfInBounds 4 z4).setIfInBounds 5 z5).setIfInBounds 6 z6).setIfInBounds 7 z7).setIfInBounds 8 z8) = #[z0, z1, z2, z3, z4, z5, z6, z7, z8] := by
  apply Array.toList_inj.1
  simp only [Array.toList_setIfInBounds, List.set_cons_zero, List.set_cons_succ]

theorem nine_at {W : World} {b : Nat} {T : TypeId} {x0 x1 x2 x3 x4 x5 x6 x7 x8 : Value} (k : W.heap[b]? = some (.cells #[x0, x1, x2, x3, x4, x5, x6, x7, x8] T (0, 0))) (z0 z1 z2 z3 z4 z5 z6 z7 z8 : Value) :
    (((((((((W.setCell ⟨b, 0, none⟩ z0).setCell ⟨b, 1, none⟩ z1).setCell ⟨b, 2, none⟩ z2).setCell ⟨b, 3, none⟩ z3).setCell ⟨b, 4, none⟩ z4).setCell ⟨b, 5, none⟩ z5).setCell ⟨b, 6, none⟩ z6).setCell ⟨b, 7, none⟩ z7).setCell ⟨b, 8, none⟩ z8).heap[b]? = some (.cells #[z0, z1, z2, z3, z4, z5, z6, z7, z8] T (0, 0)) := by
  have h := set_at (set_at (set_at (set_at (set_at (set_at (set_at (set_at (set_at k 0 z0) 1 z1) 2 z2) 3 z3) 4 z4) 5 z5) 6 z6) 7 z7) 8 z8
  rw [nine_all] at h
  exact h

/-- How a copy of an entry ends: its box, the answer's. -/
theorem owne_end {w w6 : World} {b0 b1 : Nat} {e0 e1 e2 e3 e6 e7 e8 : Value} {n1 n2 : ByteArray} {z0 z1 z2 z3 z4 z5 z6 z7 z8 : Value} (k0 : w6.heap[b0]? = some (.cells #[e0, e1, e2, e3, .string n1, .string n2, e6, e7, e8] 34 (0, 0))) (k1 : w6.heap[b1]? = some (.cells #[z0, z1, z2, z3, z4, z5, z6, z7, z8] 34 (0, 0))) (hne : b0 ≠ b1) (h0 : w.heap.size ≤ b0) (h1 : w.heap.size ≤ b1) (d : Below w.heap.size w w6) :
    let W := (w6.setCell ⟨b0, 4, none⟩ (.string n1)).setCell ⟨b0, 5, none⟩ (.string n2)
    let V := ((((((((W.setCell ⟨b1, 0, none⟩ e0).setCell ⟨b1, 1, none⟩ e1).setCell ⟨b1, 2, none⟩ e2).setCell ⟨b1, 3, none⟩ e3).setCell ⟨b1, 4, none⟩ (.string n1)).setCell ⟨b1, 5, none⟩ (.string n2)).setCell ⟨b1, 6, none⟩ e6).setCell ⟨b1, 7, none⟩ e7).setCell ⟨b1, 8, none⟩ e8
    W.heap[b0]? = some (.cells #[e0, e1, e2, e3, .string n1, .string n2, e6, e7, e8] 34 (0, 0)) ∧ W.heap[b1]? = some (.cells #[z0, z1, z2, z3, z4, z5, z6, z7, z8] 34 (0, 0)) ∧ V.heap[b1]? = some (.cells #[e0, e1, e2, e3, .string n1, .string n2, e6, e7, e8] 34 (0, 0)) ∧ Below w.heap.size w V := by
  intro W V
  have uW : Upto b0 w6 W := ((Upto.refl _ _).setCell ⟨b0, 4, none⟩ (.inl rfl) _).setCell ⟨b0, 5, none⟩ (.inl rfl) _
  have uV : Upto b1 W V := (((((((((Upto.refl _ _).setCell ⟨b1, 0, none⟩ (.inl rfl) _).setCell ⟨b1, 1, none⟩ (.inl rfl) _).setCell ⟨b1, 2, none⟩ (.inl rfl) _).setCell ⟨b1, 3, none⟩ (.inl rfl) _).setCell ⟨b1, 4, none⟩ (.inl rfl) _).setCell ⟨b1, 5, none⟩ (.inl rfl) _).setCell ⟨b1, 6, none⟩ (.inl rfl) _).setCell ⟨b1, 7, none⟩ (.inl rfl) _).setCell ⟨b1, 8, none⟩ (.inl rfl) _
  have kW : W.heap[b0]? = some (.cells #[e0, e1, e2, e3, .string n1, .string n2, e6, e7, e8] 34 (0, 0)) := by
    have h := set_at (set_at k0 4 (.string n1)) 5 (.string n2)
    rw [nine_two] at h
    exact h
  have kW1 : W.heap[b1]? = some (.cells #[z0, z1, z2, z3, z4, z5, z6, z7, z8] 34 (0, 0)) := (uW.block _ (heap_lt k1) (fun e => hne e.symm)).trans k1
  have l6 := heap_lt k0
  have z6 := uW.size
  have d6 := d.size
  exact ⟨kW, kW1, nine_at kW1 _ _ _ _ _ _ _ _ _, (d.trans (uW.toBelow d6 h0)).trans (uV.toBelow (by omega) h1)⟩

set_option maxHeartbeats 6400000 in
theorem ownEntry_any (sq cl tg k at_ va ep : Int) (nm ot : ByteArray) (w : World) (hn : nm.size ≤ 1099511627776) (ho : ot.size ≤ 1099511627776) :
    Calls Try.prog 78 #[.agg #[.int .i64 sq, .int .i64 cl, .int .i64 tg, .int .i64 k, .string nm, .string ot, .int .i64 at_, .int .i64 va, .int .i64 ep]] w fun e w' => e = .returned (.agg #[.int .i64 sq, .int .i64 cl, .int .i64 tg, .int .i64 k, .string nm, .string ot, .int .i64 at_, .int .i64 va, .int .i64 ep]) ∧ Below w.heap.size w w' := by
  obtain ⟨W0, hW0, k0, k1, d0, z0⟩ := box2 w #[.int .i64 sq, .int .i64 cl, .int .i64 tg, .int .i64 k, .string nm, .string ot, .int .i64 at_, .int .i64 va, .int .i64 ep] #[.int .i64 0, .int .i64 0, .int .i64 0, .int .i64 0, .string ⟨#[]⟩, .string ⟨#[]⟩, .int .i64 0, .int .i64 0, .int .i64 0] 34 34
  have HW0 : Hid (W0 = _) := hW0
  have l0 := heap_lt k0
  have l1 := heap_lt k1
  have S4 : W0.drew.cell? ⟨w.heap.size, 4, none⟩ = some (.string nm) := at_cell k0 4
  have S5 : W0.drew.cell? ⟨w.heap.size, 5, none⟩ = some (.string ot) := at_cell k0 5
  clear hW0
  go_enter Try.func78, Try.ntmps78
  go_upto_region 1 with fail
  rw [← HW0.out]
  clear HW0
  go_region_law (first
      | (have q := b5; clear q; go_simp; go_at_call 98; refine (clone_any ot _ ho).mono ?_; rintro e w6 ⟨rfl, b6⟩; have k60 := (b6.block _ (heap_lt k50)).trans k50; have k61 := (b6.block _ (heap_lt k51)).trans k51; have U4 := at_cell k60 4; have U5 := at_cell k60 5; have f4 := at_open k60 4; have f5 := at_open k60 5; dsimp only)
      | (go_simp; go_at_call 98; refine (clone_any nm _ hn).mono ?_; rintro e w5 ⟨rfl, b5⟩; have k50 := (b5.block _ (show w.heap.size < W0.heap.size by omega)).trans k0; have k51 := (b5.block _ (show w.heap.size + 1 < W0.heap.size by omega)).trans k1; have T4 := at_cell k50 4; have T5 := at_cell k50 5; dsimp only))
  all_goals
    have HE : Hid _ := owne_end (w := w) (n1 := nm) (n2 := ot) k60 k61 (by omega) (Nat.le_refl _) (by omega) (bw_call (bw_call (bw_drew d0) b5) b6)
    have q0 := at_cell HE.out.1 0
    have q1 := at_cell HE.out.1 1
    have q2 := at_cell HE.out.1 2
    have q3 := at_cell HE.out.1 3
    have q4 := at_cell HE.out.1 4
    have q5 := at_cell HE.out.1 5
    have q6 := at_cell HE.out.1 6
    have q7 := at_cell HE.out.1 7
    have q8 := at_cell HE.out.1 8
    have g0 := at_open HE.out.2.1 0
    have g1 := at_open HE.out.2.1 1
    have g2 := at_open HE.out.2.1 2
    have g3 := at_open HE.out.2.1 3
    have g4 := at_open HE.out.2.1 4
    have g5 := at_open HE.out.2.1 5
    have g6 := at_open HE.out.2.1 6
    have g7 := at_open HE.out.2.1 7
    have g8 := at_open HE.out.2.1 8
    have p0 := at_cell HE.out.2.1 0
    have p1 := at_cell HE.out.2.1 1
    have p2 := at_cell HE.out.2.1 2
    have p3 := at_cell HE.out.2.1 3
    have p4 := at_cell HE.out.2.1 4
    have p5 := at_cell HE.out.2.1 5
    have p6 := at_cell HE.out.2.1 6
    have p7 := at_cell HE.out.2.1 7
    have p8 := at_cell HE.out.2.1 8
    clear U4 U5 f4 f5 T4 T5 S4 S5 k0 k1 k50 k51 k60 k61 b5 b6
    go_wp2_with fail
    exact bodyPost_ret (v := .agg #[.int .i64 sq, .int .i64 cl, .int .i64 tg, .int .i64 k, .string nm, .string ot, .int .i64 at_, .int .i64 va, .int .i64 ep]) (by simp [results, Try.results78, go_sem, at_cell HE.out.2.2.1]) rfl ⟨rfl, HE.out.2.2.2⟩
end Go.Proofs.Ytghhphhnalfjaaa

namespace Go.Proofs.Ytghhphhnalfjaaa
open Go.RowKit

set_option linter.unusedVariables false

set_option maxRecDepth 100000


theorem sizeEnt15 : (Try.prog.info? 34).map (·.size) = some 9 := by kernel_rfl

theorem same_store15 (kd ds vw sq cl tg k : Int) (nm ot : ByteArray) (at_ va ep s rc rv : Int) (w : World) (g : Nat) (hg : w.heap[g]? = some (.cells #[.int .i64 kd, .int .i64 ds, .int .i64 vw, .int .i64 sq, .int .i64 cl, .int .i64 tg, .int .i64 k, .string nm, .string ot, .int .i64 at_, .int .i64 va, .int .i64 ep, .int .i64 s, .int .i64 rc, .int .i64 rv] 38 (0, 0))) :
    (Instr.storeAt 34 (.pointer (some ⟨g, 3, none⟩)) (.agg #[.int .i64 sq, .int .i64 cl, .int .i64 tg, .int .i64 k, .string nm, .string ot, .int .i64 at_, .int .i64 va, .int .i64 ep])).run Try.prog w = .ok () w := by
  have h := run_storeCells_at (P := Try.prog) g 3 38 (#[.int .i64 sq, .int .i64 cl, .int .i64 tg, .int .i64 k, .string nm, .string ot, .int .i64 at_, .int .i64 va, .int .i64 ep] : Array Value).toList 0 #[.int .i64 kd, .int .i64 ds, .int .i64 vw, .int .i64 sq, .int .i64 cl, .int .i64 tg, .int .i64 k, .string nm, .string ot, .int .i64 at_, .int .i64 va, .int .i64 ep, .int .i64 s, .int .i64 rc, .int .i64 rv] w hg (by simp) (fun v hv => by
    simp only [List.mem_cons, List.not_mem_nil, or_false] at hv
    rcases hv with rfl | rfl | rfl | rfl | rfl | rfl | rfl | rfl | rfl <;> rfl)
  have e : ((#[.int .i64 kd, .int .i64 ds, .int .i64 vw, .int .i64 sq, .int .i64 cl, .int .i64 tg, .int .i64 k, .string nm, .string ot, .int .i64 at_, .int .i64 va, .int .i64 ep, .int .i64 s, .int .i64 rc, .int .i64 rv] : Array Value).toList.take (3 + 0) ++ (#[.int .i64 sq, .int .i64 cl, .int .i64 tg, .int .i64 k, .string nm, .string ot, .int .i64 at_, .int .i64 va, .int .i64 ep] : Array Value).toList ++ (#[.int .i64 kd, .int .i64 ds, .int .i64 vw, .int .i64 sq, .int .i64 cl, .int .i64 tg, .int .i64 k, .string nm, .string ot, .int .i64 at_, .int .i64 va, .int .i64 ep, .int .i64 s, .int .i64 rc, .int .i64 rv] : Array Value).toList.drop (3 + 0 + (#[.int .i64 sq, .int .i64 cl, .int .i64 tg, .int .i64 k, .string nm, .string ot, .int .i64 at_, .int .i64 va, .int .i64 ep] : Array Value).toList.length)).toArray = #[.int .i64 kd, .int .i64 ds, .int .i64 vw, .int .i64 sq, .int .i64 cl, .int .i64 tg, .int .i64 k, .string nm, .string ot, .int .i64 at_, .int .i64 va, .int .i64 ep, .int .i64 s, .int .i64 rc, .int .i64 rv] := rfl
  rw [e, setRow_self w g _ _ _ hg] at h
  have h9 := sizeEnt15
  cases hq : Try.prog.info? 34 with
  | none => rw [hq] at h9; cases h9
  | some i0 =>
    rw [hq] at h9
    simp only [Option.map_some, Option.some.injEq] at h9
    have hs : (Value.agg #[.int .i64 sq, .int .i64 cl, .int .i64 tg, .int .i64 k, .string nm, .string ot, .int .i64 at_, .int .i64 va, .int .i64 ep]).cells.size = 9 := rfl
    have hc : (Value.agg #[.int .i64 sq, .int .i64 cl, .int .i64 tg, .int .i64 k, .string nm, .string ot, .int .i64 at_, .int .i64 va, .int .i64 ep]).cells.toList = (#[.int .i64 sq, .int .i64 cl, .int .i64 tg, .int .i64 k, .string nm, .string ot, .int .i64 at_, .int .i64 va, .int .i64 ep] : Array Value).toList := rfl
    simp only [Instr.storeAt, Instr.sureAddr, Sem.run_bind, Sem.run_pure, Result.andThen_ok]
    unfold storeVar
    simp only [Sem.run_bind, sizeOf, typeInfo, hs, hc]
    simp [hq, h9, h]

theorem msg_one15 (m : Mg) : (mgC m).toArray.all (·.oneCell') = true := by
  rw [Array.all_eq_true_iff_forall_mem]
  intro u hu
  exact msgs_one [m] u (by simpa using hu)

set_option maxHeartbeats 3200000 in
theorem ownMsg_any (kd ds vw sq cl tg k : Int) (nm ot : ByteArray) (at_ va ep s rc rv : Int) (w : World) (hn : nm.size ≤ 1099511627776) (ho : ot.size ≤ 1099511627776) :
    Calls Try.prog 42 #[.agg #[.int .i64 kd, .int .i64 ds, .int .i64 vw, .int .i64 sq, .int .i64 cl, .int .i64 tg, .int .i64 k, .string nm, .string ot, .int .i64 at_, .int .i64 va, .int .i64 ep, .int .i64 s, .int .i64 rc, .int .i64 rv]] w fun e w' => e = .returned (.agg #[.int .i64 kd, .int .i64 ds, .int .i64 vw, .int .i64 sq, .int .i64 cl, .int .i64 tg, .int .i64 k, .string nm, .string ot, .int .i64 at_, .int .i64 va, .int .i64 ep, .int .i64 s, .int .i64 rc, .int .i64 rv]) ∧ Below w.heap.size w w' := by

  obtain ⟨W0, hW0, k0, k1, d0, z0⟩ := box2 w #[.int .i64 kd, .int .i64 ds, .int .i64 vw, .int .i64 sq, .int .i64 cl, .int .i64 tg, .int .i64 k, .string nm, .string ot, .int .i64 at_, .int .i64 va, .int .i64 ep, .int .i64 s, .int .i64 rc, .int .i64 rv] #[.int .i64 0, .int .i64 0, .int .i64 0, .int .i64 0, .int .i64 0, .int .i64 0, .int .i64 0, .string ⟨#[]⟩, .string ⟨#[]⟩, .int .i64 0, .int .i64 0, .int .i64 0, .int .i64 0, .int .i64 0, .int .i64 0] 38 38
  have HW0 : Hid (W0 = _) := hW0
  have p3 := at_cell k0 3
  have p4 := at_cell k0 4
  have p5 := at_cell k0 5
  have p6 := at_cell k0 6
  have p7 := at_cell k0 7
  have p8 := at_cell k0 8
  have p9 := at_cell k0 9
  have p10 := at_cell k0 10
  have p11 := at_cell k0 11
  clear hW0
  go_enter Try.func42, Try.ntmps42
  go_upto_region 1 with fail
  rw [← HW0.out]
  clear HW0
  go_wp2_with fail
  refine (ownEntry_any sq cl tg k at_ va ep nm ot _ hn ho).mono ?_
  rintro e w1 ⟨rfl, b1⟩
  replace k0 := (b1.block _ (by omega)).trans k0
  replace k1 := (b1.block _ (by omega)).trans k1
  replace d0 := bw_call d0 b1
  clear p3 p4 p5 p6 p7 p8 p9 p10 p11 b1
  have HST : Hid _ := same_store15 kd ds vw sq cl tg k nm ot at_ va ep s rc rv w1 w.heap.size k0
  have HI : Hid ((Try.prog.info? 38).map (·.size) = some (#[.int .i64 kd, .int .i64 ds, .int .i64 vw, .int .i64 sq, .int .i64 cl, .int .i64 tg, .int .i64 k, .string nm, .string ot, .int .i64 at_, .int .i64 va, .int .i64 ep, .int .i64 s, .int .i64 rc, .int .i64 rv] : Array Value).size) := sizeMsg15
  have HS15 : Hid ((#[.int .i64 0, .int .i64 0, .int .i64 0, .int .i64 0, .int .i64 0, .int .i64 0, .int .i64 0, .string ⟨#[]⟩, .string ⟨#[]⟩, .int .i64 0, .int .i64 0, .int .i64 0, .int .i64 0, .int .i64 0, .int .i64 0] : Array Value).size = (#[.int .i64 kd, .int .i64 ds, .int .i64 vw, .int .i64 sq, .int .i64 cl, .int .i64 tg, .int .i64 k, .string nm, .string ot, .int .i64 at_, .int .i64 va, .int .i64 ep, .int .i64 s, .int .i64 rc, .int .i64 rv] : Array Value).size) := rfl
  have H115 : Hid ((#[.int .i64 kd, .int .i64 ds, .int .i64 vw, .int .i64 sq, .int .i64 cl, .int .i64 tg, .int .i64 k, .string nm, .string ot, .int .i64 at_, .int .i64 va, .int .i64 ep, .int .i64 s, .int .i64 rc, .int .i64 rv] : Array Value).all (·.oneCell') = true) := msg_one15 ⟨kd, ds, vw, ⟨sq, cl, tg, ⟨k, nm, ot, at_, va, ep⟩⟩, s, rc, rv⟩
  have HK0 : Hid _ := k0
  have HK1 : Hid _ := k1
  have hbS : Below w.heap.size w (w1.setRow (w.heap.size + 1) #[.int .i64 kd, .int .i64 ds, .int .i64 vw, .int .i64 sq, .int .i64 cl, .int .i64 tg, .int .i64 k, .string nm, .string ot, .int .i64 at_, .int .i64 va, .int .i64 ep, .int .i64 s, .int .i64 rc, .int .i64 rv]) := d0.trans (setRow_below (by omega))
  have hrow := setRow_row (cs := #[.int .i64 kd, .int .i64 ds, .int .i64 vw, .int .i64 sq, .int .i64 cl, .int .i64 tg, .int .i64 k, .string nm, .string ot, .int .i64 at_, .int .i64 va, .int .i64 ep, .int .i64 s, .int .i64 rc, .int .i64 rv]) k1
  have HLD : Hid _ := run_loadVar_row (P := Try.prog) _ (w.heap.size + 1) 38 38 #[.int .i64 kd, .int .i64 ds, .int .i64 vw, .int .i64 sq, .int .i64 cl, .int .i64 tg, .int .i64 k, .string nm, .string ot, .int .i64 at_, .int .i64 va, .int .i64 ep, .int .i64 s, .int .i64 rc, .int .i64 rv] (0, 0) _ hrow Try.underlying38 rfl HI.out
  clear hrow k0 k1 d0
  go_wp2_with (first
    | (with_reducible refine wpList_storeAt_of rfl _ _ 34 rfl (.pointer (some ⟨w.heap.size, 3, none⟩)) (.agg #[.int .i64 sq, .int .i64 cl, .int .i64 tg, .int .i64 k, .string nm, .string ot, .int .i64 at_, .int .i64 va, .int .i64 ep]) rfl rfl _ HST.out ?_)
    | (with_reducible refine wpList_load_arr rfl _ 38 rfl w.heap.size rfl #[.int .i64 kd, .int .i64 ds, .int .i64 vw, .int .i64 sq, .int .i64 cl, .int .i64 tg, .int .i64 k, .string nm, .string ot, .int .i64 at_, .int .i64 va, .int .i64 ep, .int .i64 s, .int .i64 rc, .int .i64 rv] 38 (0, 0) HK0.out _ Try.underlying38 rfl HI.out ?_)
    | (with_reducible refine wpList_store_arr rfl _ _ 38 rfl (w.heap.size + 1) rfl #[.int .i64 kd, .int .i64 ds, .int .i64 vw, .int .i64 sq, .int .i64 cl, .int .i64 tg, .int .i64 k, .string nm, .string ot, .int .i64 at_, .int .i64 va, .int .i64 ep, .int .i64 s, .int .i64 rc, .int .i64 rv] rfl #[.int .i64 0, .int .i64 0, .int .i64 0, .int .i64 0, .int .i64 0, .int .i64 0, .int .i64 0, .string ⟨#[]⟩, .string ⟨#[]⟩, .int .i64 0, .int .i64 0, .int .i64 0, .int .i64 0, .int .i64 0, .int .i64 0] 38 HK1.out HI.out HS15.out H115.out ?_)
    | fail)
  refine bodyPost_ret (v := .agg #[.int .i64 kd, .int .i64 ds, .int .i64 vw, .int .i64 sq, .int .i64 cl, .int .i64 tg, .int .i64 k, .string nm, .string ot, .int .i64 at_, .int .i64 va, .int .i64 ep, .int .i64 s, .int .i64 rc, .int .i64 rv]) ?_ rfl ⟨rfl, hbS⟩
  simp [results, Try.results42, asAddr, Act.put, HLD.out]

theorem msg_equal15 (m m' : Mg) (w : World) : (Op.equalIn 10000 38 (mgV m) (mgV m')).run Try.prog w = .ok (mgEq m m') w := by
  obtain ⟨kd, ds, vw, ⟨sq, cl, tg, ⟨k, nm, ot, at_, va, ep⟩⟩, s, rc, rv⟩ := m
  obtain ⟨kd', ds', vw', ⟨sq', cl', tg', ⟨k', nm', ot', at_', va', ep'⟩⟩, s', rc', rv'⟩ := m'
  exact msg_equal kd ds vw sq cl tg k nm ot at_ va ep s rc rv kd' ds' vw' sq' cl' tg' k' at_' va' ep' s' rc' rv' nm' ot' w

theorem wpList_neq15 {ops : Array Oper} {rest : List Oper} {o : Oper} {a : Act} {Q : Exit → Act → World → Prop} {w : World} (hgd : o.guard = none) (x y : Operand) (tt : TypeId) (ho : o.op = .binOp .neq 38 x y tt) (m m' : Mg) (hx : a.eval x = mgV m) (hy : a.eval y = mgV m')
    (h : wpList Try.prog ops Q rest (a.put o.dst (.bool (!mgEq m m'))) w) : wpList Try.prog ops Q (o :: rest) a w :=
  wpList_plain hgd fun K hK => by
    have hKK := hK _ _ h
    have hg := Try.eqGuardType38
    have he := msg_equal15 m m' w
    have hv : ∀ m : Mg, ∃ c, mgV m = .agg c := fun m => ⟨_, rfl⟩
    obtain ⟨c, hc⟩ := hv m
    obtain ⟨c', hc'⟩ := hv m'
    rw [hc, hc'] at he
    rw [hc] at hx
    rw [hc'] at hy
    have hb : (do eqGuard .neq 38 x y (.agg c) (.agg c'); binOp .neq 38 (.agg c) (.agg c') : Sem Value).run Try.prog w = .ok (.bool (!mgEq m m')) w := by
      simp [eqGuard, hg, binOp, Op.equal, Op.maxDepth, he]
    unfold Oper.wp execOp
    simp only [ho, hx, hy, Sem.run_bind, Sem.run_pure, Result.andThen_ok, hb]
    exact hKK

theorem op_small15 {o : Oq} (h : opOk o = true) : o.nm.size ≤ 1099511627776 ∧ o.ot.size ≤ 1099511627776 := by
  have hs : ∀ b : ByteArray, b.data.toList.length = b.size := fun b => by rw [Array.length_toList]; rfl
  have nm4 : ∀ b : ByteArray, Nums.nameB b.data.toList = true → b.size ≤ 1099511627776 := fun b hb => by
    simp only [Nums.nameB, Bool.and_eq_true, decide_eq_true_eq] at hb
    have := hs b
    omega
  simp only [opOk, Bool.and_eq_true, Bool.or_eq_true, Bool.not_eq_true', beq_iff_eq] at h
  obtain ⟨⟨⟨⟨⟨⟨⟨⟨h1, -⟩, h3⟩, h4⟩, -⟩, -⟩, -⟩, -⟩, -⟩ := h
  refine ⟨nm4 _ h1, ?_⟩
  rcases h4 with h4 | h4
  · rw [h4] at h3
    have := of_decide_eq_false h3.symm
    omega
  · exact nm4 _ h4

theorem msg_small15 {m : Mg} (h : msgOk m = true) : m.e.o.nm.size ≤ 1099511627776 ∧ m.e.o.ot.size ≤ 1099511627776 := by
  simp only [msgOk, kindOk, Bool.and_eq_true] at h
  obtain ⟨-, h⟩ := h
  have ask : asked m.e = true → m.e.o.nm.size ≤ 1099511627776 ∧ m.e.o.ot.size ≤ 1099511627776 := fun q => by
    simp only [asked, Bool.and_eq_true] at q
    exact op_small15 q.2
  split at h
  · simp only [Bool.and_eq_true] at h
    exact ask h.1.1
  split at h
  · simp only [Bool.and_eq_true, entOk, changes] at h
    exact op_small15 h.1.1.2.1
  split at h
  · simp only [Bool.and_eq_true] at h
    rw [(entEq_iff _ _).1 h.1.1]
    exact ⟨by decide, by decide⟩
  split at h
  · simp only [Bool.and_eq_true] at h
    exact ask h.1.1.1
  · cases h

set_option maxHeartbeats 3200000 in
theorem letters_any (b n : Nat) (f : Nat → Option Mg) (w : World) (T : BagW w b n f) (hf : ∀ p m, p < 60 → f p = some m → FitMsg m ∧ msgOk m = true) :
    Calls Try.prog 38 #[.map (some b)] w fun e w' => ∃ v, e = .returned v ∧ w'.ownsRow w.heap.size 38 15 v (lettersIn (lineAt f)).length ((lettersIn (lineAt f)).flatMap mgC) ∧ Below w.heap.size w w' := by
  obtain ⟨i0, hi, hz0, hz1, hz2⟩ := info_parts Try.infoMsg
  have hsm : ∀ m ∈ lineAt f, m.e.o.nm.size ≤ 1099511627776 ∧ m.e.o.ot.size ≤ 1099511627776 := fun m hm => by
    obtain ⟨p, hp, rfl⟩ := List.mem_map.1 hm
    cases e : f p with
    | none => exact ⟨by decide, by decide⟩
    | some m => exact msg_small15 (hf p m (List.mem_range.1 hp) e).2
  have HSM : Hid _ := hsm
  have hlen := lineAt_len f
  clear hsm
  go_enter Try.func38, Try.ntmps38
  go_wp2_with fail
  refine (line_any b n f _ (T.below (bw_alloc (Below.refl _ _))) (fun p m h1 h2 => (hf p m h1 h2).1)).mono ?_
  rintro e w1 ⟨rfl, b1⟩
  have own1 : w1.ownsRow w.heap.size 38 15 (.slice (some ⟨w.heap.size, 0, none⟩) 0 0) ([] : List Mg).length (([] : List Mg).flatMap mgC) := owns_below (own_nomsgs w) b1
  have d1 : Below w.heap.size w w1 := bw_call (bw_alloc (Below.refl _ _)) b1
  clear b1 T hf
  generalize hL : lineAt f = L at *
  have HL : Hid (lineAt f = L) := hL
  clear hL
  have HLEN : Hid (L.length = 60) := hlen
  clear hlen
  go_wp2_with fail
  go_loopw [3, 9] (fun q i wr => ∃ (j : Nat) (xs : List Mg) (o : Option Addr) (cp : Nat), j ≤ 60 ∧ i = .int .i64 j ∧ q = .slice o xs.length cp ∧ xs = lettersIn (L.take j) ∧ wr.ownsRow w.heap.size 38 15 (.slice o xs.length cp) xs.length (xs.flatMap mgC) ∧ Below w.heap.size w wr) (fun _ i _ => 60 - (intOf i).toNat)
  case atStart => exact ⟨0, [], _, _, by omega, rfl, rfl, by simp [lettersIn], own1, d1⟩
  case round =>
    clear own1 d1
    obtain ⟨j, xs, o, cp, hj, rfl, rfl, hxs, own, d⟩ := hrel
    have HXS : Hid (xs = lettersIn (L.take j)) := hxs
    clear hxs
    have hxl : xs.length ≤ 60 := by
      rw [HXS.out]
      refine Nat.le_trans (List.length_filter_le _ _) ?_
      rw [List.length_take]
      omega
    by_cases hlt : j < 60
    · obtain ⟨m, hm⟩ : ∃ m, L[j]? = some m := ⟨L[j]'(by rw [HLEN.out]; exact hlt), List.getElem?_eq_getElem _⟩
      have hsm := HSM.out m (List.mem_of_getElem? hm)
      have HTK : Hid (lettersIn (L.take (j + 1)) = lettersIn (L.take j) ++ (if mgEq m Mg.zero = true then [] else [m])) := by
        rw [Hid, List.take_add_one, hm, lettersIn, lettersIn, List.filter_append]
        cases e : mgEq m Mg.zero <;> simp [e]
      have hj1 : (j : Int) < 60 := by omega
      have hj0 : (0 : Int) ≤ (j : Int) := by omega
      have hidx := index60 wr L j hlt m hm
      obtain ⟨kd, ds, vw, ⟨sq, cl, tg, ⟨k, nm, ot, at_, va, ep⟩⟩, s, rc, rv⟩ := m
      simp only [mgV] at hidx
      simp only at hsm
      have hdA : Below w.heap.size w (wr.alloc (.cells #[.int .i64 kd, .int .i64 ds, .int .i64 vw, .int .i64 sq, .int .i64 cl, .int .i64 tg, .int .i64 k, .string nm, .string ot, .int .i64 at_, .int .i64 va, .int .i64 ep, .int .i64 s, .int .i64 rc, .int .i64 rv] 38)) := bw_alloc d
      have ownA := own.alloc (.cells #[.int .i64 kd, .int .i64 ds, .int .i64 vw, .int .i64 sq, .int .i64 cl, .int .i64 tg, .int .i64 k, .string nm, .string ot, .int .i64 at_, .int .i64 va, .int .i64 ep, .int .i64 s, .int .i64 rc, .int .i64 rv] 38)
      have HA : Hid _ := And.intro hdA ownA
      clear hm own hdA ownA
      obtain ⟨bz, hbz⟩ : ∃ z, mgEq ⟨kd, ds, vw, ⟨sq, cl, tg, ⟨k, nm, ot, at_, va, ep⟩⟩, s, rc, rv⟩ Mg.zero = z := ⟨_, rfl⟩
      rw [hbz] at HTK
      have HBZ : Hid (mgEq ⟨kd, ds, vw, ⟨sq, cl, tg, ⟨k, nm, ot, at_, va, ep⟩⟩, s, rc, rv⟩ Mg.zero = bz) := hbz
      clear hbz
      cases bz
      · go_wp2_with (first
          | (with_reducible refine wpList_index_of rfl 110 _ _ rfl (.agg (lineC L)) (.int .i64 (j : Int)) rfl rfl _ hidx ?_)
          | (refine wpList_neq15 rfl _ _ _ rfl ⟨kd, ds, vw, ⟨sq, cl, tg, ⟨k, nm, ot, at_, va, ep⟩⟩, s, rc, rv⟩ Mg.zero rfl rfl ?_; rw [HBZ.out])
          | fail)
        refine (ownMsg_any kd ds vw sq cl tg k nm ot at_ va ep s rc rv _ hsm.1 hsm.2).mono ?_
        rintro e w2 ⟨rfl, b2⟩
        have own2 := owns_below HA.out.2 b2
        have d2 := bw_call HA.out.1 b2
        have HO4 : Hid _ := World.ownsRow.alloc own2 (.cells #[.int .i64 kd, .int .i64 ds, .int .i64 vw, .int .i64 sq, .int .i64 cl, .int .i64 tg, .int .i64 k, .string nm, .string ot, .int .i64 at_, .int .i64 va, .int .i64 ep, .int .i64 s, .int .i64 rc, .int .i64 rv] 38)
        have hbl : Hid (∀ k, (Value.slice o xs.length cp).ownBlock = some k → w.heap.size ≤ k) := fun k hk => (own2.lt k hk).1
        have hsz := d2.size
        clear HA own2 b2 hidx
        go_wp2_with (at_builtin; refine wpList_append_own _ rfl _ _ 24 rfl w.heap.size 38 i0 (.agg #[.int .i64 0, .int .i64 0, .int .i64 0, .int .i64 0, .int .i64 0, .int .i64 0, .int .i64 0, .string ByteArray.empty, .string ByteArray.empty, .int .i64 0, .int .i64 0, .int .i64 0, .int .i64 0, .int .i64 0, .int .i64 0]) 15 136 Try.underlying24 hi hz0 hz1 hz2 rfl (by decide) _ _ _ rfl HO4.out ⟨w2.heap.size, 0, none⟩ 1 1 (mgC ⟨kd, ds, vw, ⟨sq, cl, tg, ⟨k, nm, ot, at_, va, ep⟩⟩, s, rc, rv⟩) rfl rfl ?c1 ?c2 ?c3 ?c4 ?c5 ?_)
        case c1 => exact new_msg w2 ⟨kd, ds, vw, ⟨sq, cl, tg, ⟨k, nm, ot, at_, va, ep⟩⟩, s, rc, rv⟩ _
        case c2 =>
          intro u hu
          exact msgs_one [⟨kd, ds, vw, ⟨sq, cl, tg, ⟨k, nm, ot, at_, va, ep⟩⟩, s, rc, rv⟩] u (by simpa using hu)
        case c3 => unfold maxLen; omega
        case c4 => omega
        case c5 => first | omega | (simp; omega)
        intro v5 w5 own5 gr5 nil5
        have B5 : Below w.heap.size w w5 := (bw_alloc d2).grown gr5 (by first | omega | (simp; omega)) hbl.out
        have own6 : w5.ownsRow w.heap.size 38 15 v5 (xs ++ [(⟨kd, ds, vw, ⟨sq, cl, tg, ⟨k, nm, ot, at_, va, ep⟩⟩, s, rc, rv⟩ : Mg)]).length ((xs ++ [(⟨kd, ds, vw, ⟨sq, cl, tg, ⟨k, nm, ot, at_, va, ep⟩⟩, s, rc, rv⟩ : Mg)]).flatMap mgC) := by
          rw [List.length_append, List.flatMap_append]
          simpa using own5
        obtain ⟨o5, c5, rfl⟩ := own_slice own6
        have HF : Hid _ := And.intro own6 B5
        have HX : Hid (xs ++ [(⟨kd, ds, vw, ⟨sq, cl, tg, ⟨k, nm, ot, at_, va, ep⟩⟩, s, rc, rv⟩ : Mg)] = lettersIn (L.take (j + 1))) := by rw [Hid, HTK.out, HXS.out]; rfl
        clear own5 own6 gr5 nil5 hbl B5 d2 HO4 HTK
        generalize hxx : xs ++ [(⟨kd, ds, vw, ⟨sq, cl, tg, ⟨k, nm, ot, at_, va, ep⟩⟩, s, rc, rv⟩ : Mg)] = xx at *
        clear hxx
        go_wp2_with fail
        go_roundw
        case rel => exact ⟨j + 1, xx, o5, c5, by omega, by go_num, rfl, HX.out, HF.out.1, HF.out.2⟩
        case measure => simp [intOf]; omega
      · have HX : Hid (xs = lettersIn (L.take (j + 1))) := by rw [Hid, HTK.out, HXS.out]; simp
        clear HTK
        go_wp2_with (first
          | (with_reducible refine wpList_index_of rfl 110 _ _ rfl (.agg (lineC L)) (.int .i64 (j : Int)) rfl rfl _ hidx ?_)
          | (refine wpList_neq15 rfl _ _ _ rfl ⟨kd, ds, vw, ⟨sq, cl, tg, ⟨k, nm, ot, at_, va, ep⟩⟩, s, rc, rv⟩ Mg.zero rfl rfl ?_; rw [HBZ.out])
          | fail)
        go_roundw
        case rel => exact ⟨j + 1, xs, o, cp, by omega, by go_num, rfl, HX.out, HA.out.2, HA.out.1⟩
        case measure => simp [intOf]; omega
    · obtain rfl : j = 60 := by omega
      have HX : Hid (xs = lettersIn L) := by rw [Hid, HXS.out, List.take_of_length_le (by rw [HLEN.out]; omega)]
      go_wp2_with fail
      go_ret
      exact ⟨_, rfl, by rw [HL.out, ← HX.out]; exact own, d⟩
end Go.Proofs.Ytghhphhnalfjaaa

