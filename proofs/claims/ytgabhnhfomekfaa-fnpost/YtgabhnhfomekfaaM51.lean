/-
  Contracts and plain laws, one chapter behind the other.
-/
import Derived.Test.YtgabhnhfomekfaaM24
import Derived.Test.YtgabhnhfomekfaaM44
import Derived.Test.YtgabhnhfomekfaaM50
namespace Go.Proofs.Ytgabhnhfomekfaa
open Go.RowKit

set_option linter.unusedVariables false

set_option maxRecDepth 100000


theorem kept_le (L : List Mg) : (kept L).length ≤ 60 := by
  cases h : postOk L
  · rw [kept_no h]; simp
  · rw [kept_yes h]
    simp only [postOk, Bool.and_eq_true, decide_eq_true_eq] at h
    exact h.2

theorem kept_ok (L : List Mg) : allOk (kept L) = true := by
  cases h : postOk L
  · rw [kept_no h]; rfl
  · rw [kept_yes h]
    simp only [postOk, Bool.and_eq_true] at h
    exact h.1

theorem letters_of (L : List Mg) : lettersIn (lineAt (placesOf (kept L))) = kept L := letters_places (kept_le L) (kept_ok L)

theorem fit_kept {L : List Mg} (h : FitPost L) : ∀ p m, p < 60 → placesOf (kept L) p = some m → FitMsg m ∧ msgOk m = true := fun p m _ e => by
  have hm := List.mem_of_getElem? (show (kept L)[p]? = some m from e)
  refine ⟨?_, List.all_eq_true.1 (kept_ok L) m hm⟩
  cases hq : postOk L
  · rw [kept_no hq] at hm; simp at hm
  · rw [kept_yes hq] at hm; exact h m hm

theorem postOk_append (l m : List Mg) : postOk (l ++ m) = true ↔ postOk l = true ∧ postOk m = true ∧ l.length + m.length ≤ 60 := by
  simp only [postOk, allOk, Bool.and_eq_true, decide_eq_true_eq, List.all_append, List.length_append]
  constructor
  · rintro ⟨⟨h1, h2⟩, h3⟩
    exact ⟨⟨h1, by omega⟩, ⟨h2, by omega⟩, h3⟩
  · rintro ⟨⟨h1, -⟩, ⟨h2, -⟩, h3⟩
    exact ⟨⟨h1, h2⟩, h3⟩

theorem posted_yes {l m : List Mg} (h : postOk (l ++ m) = true) : posted l m = (l ++ m, true) := by
  obtain ⟨h1, h2, h3⟩ := (postOk_append l m).1 h
  rw [posted, if_pos h1, if_pos ⟨h2, h3⟩]

theorem posted_no {l m : List Mg} (h : postOk (l ++ m) = false) : posted l m = (kept l, false) := by
  cases h1 : postOk l
  · rw [posted, h1, kept_no h1]; rfl
  · rw [posted, if_pos h1, kept_yes h1, if_neg]
    intro h2
    rw [(postOk_append l m).2 ⟨h1, h2⟩] at h
    cases h

/-- What stands at a place of what a bag keeps. -/
theorem at_kept (l : List Mg) (a : Int) : (∃ q : Nat, a = (q : Int) ∧ q < 60 ∧ postOk l = true ∧ ∃ m, l[q]? = some m ∧ msgOk m = true ∧ atLine (lineAt (placesOf (kept l))) a = m ∧ mgEq m Mg.zero = false) ∨
    (atLine (lineAt (placesOf (kept l))) a = Mg.zero ∧ twice l a = (kept l, false) ∧ taken l a = (kept l, Mg.zero, false)) := by
  by_cases hq : postOk l = true ∧ 0 ≤ a ∧ a.toNat < l.length
  · obtain ⟨h1, h2, h3⟩ := hq
    have h60 : l.length ≤ 60 := by rw [← kept_yes h1]; exact kept_le l
    have hok := List.all_eq_true.1 (by rw [← kept_yes h1]; exact kept_ok l : allOk l = true) _ (List.getElem_mem h3)
    have hz := ok_not_zero hok
    refine .inl ⟨a.toNat, by omega, by omega, h1, l[a.toNat], List.getElem?_eq_getElem h3, hok, ?_, hz⟩
    rw [atLine, if_pos (by rw [inB_iff]; omega), kept_yes h1, lineAt, List.getElem?_map, List.getElem?_range (by omega)]
    simp [placesOf, h3]
  · refine .inr ⟨?_, ?_, ?_⟩
    · rw [atLine]
      split
      · rename_i hin
        rw [inB_iff] at hin
        have hk : (kept l)[a.toNat]? = none := by
          refine List.getElem?_eq_none ?_
          cases h1 : postOk l
          · rw [kept_no h1]; simp
          · rw [kept_yes h1]
            refine Nat.le_of_not_lt fun h3 => hq ⟨h1, hin.1, h3⟩
        rw [lineAt, List.getElem?_map, List.getElem?_range (by omega)]
        simp [placesOf, hk]
      · rfl
    · rw [twice]
      cases h1 : postOk l
      · rw [kept_no h1]; rfl
      · rw [if_pos rfl, if_neg (fun h => hq ⟨h1, h.1, h.2.1⟩), kept_yes h1]
    · rw [taken]
      cases h1 : postOk l
      · rw [kept_no h1]; rfl
      · rw [if_pos rfl, if_neg (fun h => hq ⟨h1, h.1, h.2⟩), kept_yes h1]

theorem lists_one {w W : World} {v : Value} {l : List Mg} (d : Below w.heap.size w W) (k : W.heap[w.heap.size]? = some (.cells #[v] 24 (0, 0))) (r : ReadsR 15 mgC w.heap.size w v l) : Lists W.heap.size W w.heap.size [(v, l)] :=
  ⟨fun i x hx => by
    match i, hx with
    | 0, hx => cases hx; exact ⟨at_cell k 0, (r.below d).mono d.size, heap_lt k⟩
    | i + 1, hx => simp at hx⟩

theorem lists_two {w W : World} {v v' : Value} {l l' : List Mg} (d : Below w.heap.size w W) (k : W.heap[w.heap.size]? = some (.cells #[v, v'] 24 (0, 0))) (r : ReadsR 15 mgC w.heap.size w v l) (r' : ReadsR 15 mgC w.heap.size w v' l') : Lists W.heap.size W w.heap.size [(v, l), (v', l')] :=
  ⟨fun i x hx => by
    match i, hx with
    | 0, hx => cases hx; exact ⟨at_cell k 0, (r.below d).mono d.size, heap_lt k⟩
    | 1, hx => cases hx; exact ⟨at_cell k 1, (r'.below d).mono d.size, heap_lt k⟩
    | i + 2, hx => simp at hx⟩

/-- A bag of one list. -/
theorem bagOf_one (c : Nat) (v : Value) (l : List Mg) (w : World) (hlen : l.length ≤ 1048576) (hfit : FitPost l) (hL : Lists w.heap.size w c [(v, l)]) :
    Calls Try.prog 20 #[.slice (some ⟨c, 0, none⟩) 1 1] w fun e w' => ∃ b : Nat, e = .returned (.tuple #[.map (some b), .bool (postOk l)]) ∧ w.heap.size ≤ b ∧ BagW w' b 60 (placesOf (kept l)) ∧ Below w.heap.size w w' := by
  have h := bagOf_any c [(v, l)] w (by simp) (fun x hx => by simp at hx; rw [hx]; exact hlen) (fun x hx => by simp at hx; rw [hx]; exact hfit) hL
  rw [show catL [(v, l)] = l by simp [catL]] at h
  exact h

theorem bagOf_two (c : Nat) (v v' : Value) (l l' : List Mg) (w : World) (hlen : l.length ≤ 1048576) (hlen' : l'.length ≤ 1048576) (hfit : FitPost l) (hfit' : FitPost l') (hL : Lists w.heap.size w c [(v, l), (v', l')]) :
    Calls Try.prog 20 #[.slice (some ⟨c, 0, none⟩) 2 2] w fun e w' => ∃ b : Nat, e = .returned (.tuple #[.map (some b), .bool (postOk (l ++ l'))]) ∧ w.heap.size ≤ b ∧ BagW w' b 60 (placesOf (kept (l ++ l'))) ∧ Below w.heap.size w w' := by
  have h := bagOf_any c [(v, l), (v', l')] w (by simp) (fun x hx => by simp at hx; rcases hx with rfl | rfl <;> assumption) (fun x hx => by simp at hx; rcases hx with rfl | rfl <;> assumption) hL
  rw [show catL [(v, l), (v', l')] = l ++ l' by simp [catL]] at h
  exact h

set_option maxHeartbeats 3200000 in
theorem implPosted_any (v1 v2 : Value) (l m : List Mg) (w : World) (hf1 : FitPost l) (hf2 : FitPost m) (hl1 : l.length ≤ 1048576) (hl2 : m.length ≤ 1048576) (r1 : ReadsR 15 mgC w.heap.size w v1 l) (r2 : ReadsR 15 mgC w.heap.size w v2 m) :
    Calls Try.prog 6 #[v1, v2] w fun e w' => ∃ v', e = .returned (.tuple #[v', .bool (posted l m).2]) ∧ w'.ownsRow w.heap.size 38 15 v' (posted l m).1.length ((posted l m).1.flatMap mgC) ∧ Below w.heap.size w w' := by
  obtain ⟨o1, c1, rfl⟩ := r1.form
  obtain ⟨o2, c2, rfl⟩ := r2.form
  have kA := heap_alloc_new w (.cells #[.slice o1 l.length c1, .slice o2 m.length c2] 24)
  have dA : Below w.heap.size w (w.alloc (.cells #[.slice o1 l.length c1, .slice o2 m.length c2] 24)) := bw_alloc (Below.refl _ _)
  have hL := lists_two dA kA r1 r2
  have hfm : FitPost (l ++ m) := fun x hx => (List.mem_append.1 hx).elim (hf1 x) (hf2 x)
  go_enter Try.func6, Try.ntmps6
  go_wp2_with fail
  generalize w.alloc (.cells #[.slice o1 l.length c1, .slice o2 m.length c2] 24) = W1 at *
  refine (bagOf_two w.heap.size _ _ l m _ hl1 hl2 hf1 hf2 hL).mono ?_
  rintro e w2 ⟨b, rfl, hb, TB, b2⟩
  have d2 := bw_call dA b2
  clear hL kA b2
  cases hok : postOk (l ++ m)
  · have HP : Hid (posted l m = (kept l, false)) := posted_no hok
    have r12 := (r1.below d2).mono d2.size
    have kB := heap_alloc_new w2 (.cells #[.slice o1 l.length c1] 24)
    have dB : Below w2.heap.size w2 (w2.alloc (.cells #[.slice o1 l.length c1] 24)) := bw_alloc (Below.refl _ _)
    have hL := lists_one dB kB r12
    have d3 := bw_call d2 dB
    clear hok TB hb dA kB dB r12
    go_wp2_with fail
    generalize w2.alloc (.cells #[.slice o1 l.length c1] 24) = W3 at *
    refine (bagOf_one w2.heap.size _ l _ hl1 hf1 hL).mono ?_
    rintro e w4 ⟨b', rfl, hb', TB', b4⟩
    have d4 := bw_call d3 b4
    clear hL b4 d3
    go_wp2_with fail
    refine (letters_any b' 60 _ _ TB' (fit_kept hf1)).mono ?_
    rintro e w5 ⟨v5, rfl, own5, b5⟩
    rw [letters_of] at own5
    have own6 := owns_mono own5 d4.size
    have d6 := bw_call d4 b5
    obtain ⟨o5, c5, rfl⟩ := own_slice own6
    have HF : Hid _ := And.intro own6 d6
    clear own5 own6 d6 d4 b5 TB'
    go_wp2_with fail
    exact bodyPost_ret (v := .tuple #[.slice o5 (kept l).length c5, .bool false]) (by simp [results, Try.results6, go_sem]) rfl ⟨_, by rw [HP.out], by rw [HP.out]; exact HF.out.1, HF.out.2⟩
  · have HP : Hid (posted l m = (l ++ m, true)) := posted_yes hok
    have HK : Hid (kept (l ++ m) = l ++ m) := kept_yes hok
    clear hok
    go_wp2_with fail
    refine (letters_any b 60 _ _ TB (fit_kept hfm)).mono ?_
    rintro e w5 ⟨v5, rfl, own5, b5⟩
    rw [letters_of, HK.out] at own5
    have own6 := owns_mono own5 d2.size
    have d6 := bw_call d2 b5
    obtain ⟨o5, c5, rfl⟩ := own_slice own6
    have HF : Hid _ := And.intro own6 d6
    clear own5 own6 d6 d2 b5 TB
    generalize hlm : l ++ m = LM at *
    have HLM : Hid (l ++ m = LM) := hlm
    clear hlm
    go_wp2_with fail
    exact bodyPost_ret (v := .tuple #[.slice o5 LM.length c5, .bool true]) (by simp [results, Try.results6, go_sem]) rfl ⟨_, by rw [HP.out], by rw [HP.out]; exact HF.out.1, HF.out.2⟩

theorem twice_posted {l : List Mg} {q : Nat} {m : Mg} (hok : postOk l = true) (hm : l[q]? = some m) (h : msgOk m = true) : twice l (q : Int) = posted l [m] := by
  have h60 : l.length ≤ 60 := by rw [← kept_yes hok]; exact kept_le l
  have hq : q < l.length := by
    rcases Nat.lt_or_ge q l.length with g | g
    · exact g
    · rw [List.getElem?_eq_none g] at hm; cases hm
  have h1 : postOk [m] = true := by simp [postOk, allOk, h]
  rw [twice, posted, if_pos hok, if_pos hok]
  by_cases h2 : l.length = 60
  · rw [if_neg (fun g => g.2.2 h2), if_neg (fun g => by have := g.2; simp at this; omega)]
  · rw [if_pos ⟨by omega, by simpa using hq, h2⟩, if_pos ⟨h1, by simp; omega⟩, Int.toNat_natCast, hm]
    rfl

set_option maxHeartbeats 3200000 in
theorem implTwice_any (v1 : Value) (l : List Mg) (a : Int) (w : World) (hf1 : FitPost l) (hl1 : l.length ≤ 1048576) (r1 : ReadsR 15 mgC w.heap.size w v1 l) :
    Calls Try.prog 10 #[v1, .int .i64 a] w fun e w' => ∃ v', e = .returned (.tuple #[v', .bool (twice l a).2]) ∧ w'.ownsRow w.heap.size 38 15 v' (twice l a).1.length ((twice l a).1.flatMap mgC) ∧ Below w.heap.size w w' := by
  obtain ⟨o1, c1, rfl⟩ := r1.form
  have kA := heap_alloc_new w (.cells #[.slice o1 l.length c1] 24)
  have dA : Below w.heap.size w (w.alloc (.cells #[.slice o1 l.length c1] 24)) := bw_alloc (Below.refl _ _)
  have hL := lists_one dA kA r1
  go_enter Try.func10, Try.ntmps10
  go_wp2_with fail
  generalize w.alloc (.cells #[.slice o1 l.length c1] 24) = W1 at *
  refine (bagOf_one w.heap.size _ l _ hl1 hf1 hL).mono ?_
  rintro e w2 ⟨b, rfl, hb, TB, b2⟩
  have d2 := bw_call dA b2
  clear hL kA b2 dA
  go_wp2_with fail
  refine (letterAt_any b 60 _ a _ TB (fun p m h1 h2 => (fit_kept hf1 p m h1 h2).1)).mono ?_
  rintro e w3 ⟨rfl, b3⟩
  have T3 := TB.below b3
  have d3 := bw_call d2 b3
  clear TB b3 d2
  rcases at_kept l a with ⟨q, rfl, hq, hok, m, hm, hmok, hx, hz⟩ | ⟨hx, ht, -⟩
  · have HP : Hid (twice l (q : Int) = posted l [m]) := twice_posted hok hm hmok
    have hfm : FitPost [m] := fun x hx => by simp at hx; rw [hx]; exact hf1 m (List.mem_of_getElem? hm)
    rw [hx, hz]
    clear hx hz hm hmok hok T3
    have hB4 : Below w3.heap.size w3 (w3.alloc (.cells #[.int .i64 m.kd, .int .i64 m.ds, .int .i64 m.vw, .int .i64 m.e.sq, .int .i64 m.e.cl, .int .i64 m.e.tg, .int .i64 m.e.o.k, .string m.e.o.nm, .string m.e.o.ot, .int .i64 m.e.o.at_, .int .i64 m.e.o.va, .int .i64 m.e.o.ep, .int .i64 m.s, .int .i64 m.rc, .int .i64 m.rv] 38)) := bw_alloc (Below.refl _ _)
    obtain ⟨kd, ds, vw, ⟨sq, cl, tg, ⟨k, nm, ot, at_, va, ep⟩⟩, s, rc, rv⟩ := m
    simp only at hB4
    simp only [mgV]
    have d4 := bw_call d3 hB4
    have k4 := heap_alloc_new w3 (.cells #[.int .i64 kd, .int .i64 ds, .int .i64 vw, .int .i64 sq, .int .i64 cl, .int .i64 tg, .int .i64 k, .string nm, .string ot, .int .i64 at_, .int .i64 va, .int .i64 ep, .int .i64 s, .int .i64 rc, .int .i64 rv] 38)
    go_upto_region 5 with fail
    generalize w3.alloc (.cells #[.int .i64 kd, .int .i64 ds, .int .i64 vw, .int .i64 sq, .int .i64 cl, .int .i64 tg, .int .i64 k, .string nm, .string ot, .int .i64 at_, .int .i64 va, .int .i64 ep, .int .i64 s, .int .i64 rc, .int .i64 rv] 38) = W4 at *
    have p0 := at_cell k4 0
    have p1 := at_cell k4 1
    have p2 := at_cell k4 2
    have p3 := at_cell k4 3
    have p4 := at_cell k4 4
    have p5 := at_cell k4 5
    have p6 := at_cell k4 6
    have p7 := at_cell k4 7
    have p8 := at_cell k4 8
    have p9 := at_cell k4 9
    have p10 := at_cell k4 10
    have p11 := at_cell k4 11
    have p12 := at_cell k4 12
    have p13 := at_cell k4 13
    have p14 := at_cell k4 14
    have d5 : Below w.heap.size w (W4.alloc (.cells #[.int .i64 kd, .int .i64 ds, .int .i64 vw, .int .i64 sq, .int .i64 cl, .int .i64 tg, .int .i64 k, .string nm, .string ot, .int .i64 at_, .int .i64 va, .int .i64 ep, .int .i64 s, .int .i64 rc, .int .i64 rv] 38)) := bw_alloc d4
    have own5 : (W4.alloc (.cells #[.int .i64 kd, .int .i64 ds, .int .i64 vw, .int .i64 sq, .int .i64 cl, .int .i64 tg, .int .i64 k, .string nm, .string ot, .int .i64 at_, .int .i64 va, .int .i64 ep, .int .i64 s, .int .i64 rc, .int .i64 rv] 38)).ownsRow W4.heap.size 38 15 (.slice (some ⟨W4.heap.size, 0, none⟩) 1 1) [(⟨kd, ds, vw, ⟨sq, cl, tg, ⟨k, nm, ot, at_, va, ep⟩⟩, s, rc, rv⟩ : Mg)].length ([(⟨kd, ds, vw, ⟨sq, cl, tg, ⟨k, nm, ot, at_, va, ep⟩⟩, s, rc, rv⟩ : Mg)].flatMap mgC) := World.ownsRow_lit (base := W4.heap.size) (size := 15) (e := 38) W4 #[.int .i64 kd, .int .i64 ds, .int .i64 vw, .int .i64 sq, .int .i64 cl, .int .i64 tg, .int .i64 k, .string nm, .string ot, .int .i64 at_, .int .i64 va, .int .i64 ep, .int .i64 s, .int .i64 rc, .int .i64 rv] 1 (Nat.le_refl _) (by unfold maxLen; omega) rfl
    have rr := ReadsR.of_own mgC_len own5
    have r15 := (r1.below d5).mono d5.size
    clear own5 d4 hB4 d3 k4
    go_wp2_with fail
    refine (implPosted_any _ _ l _ _ hf1 hfm hl1 (by simp) r15 rr).mono ?_
    rintro e w6 ⟨v6, rfl, own6, b6⟩
    rw [← HP.out] at own6 ⊢
    have own7 := owns_mono own6 d5.size
    have d7 := bw_call d5 b6
    obtain ⟨o5, c5, rfl⟩ := own_slice own7
    have HF : Hid _ := And.intro own7 d7
    clear own6 own7 d7 d5 b6 p0 p1 p2 p3 p4 p5 p6 p7 p8 p9 p10 p11 p12 p13 p14 rr r15 r1
    generalize htw : twice l (q : Int) = TW at *
    have HTW : Hid (twice l (q : Int) = TW) := htw
    clear htw
    go_wp2_with fail
    exact bodyPost_ret (v := .tuple #[.slice o5 TW.1.length c5, .bool TW.2]) (by simp [results, Try.results10, go_sem]) rfl ⟨_, by rw [HTW.out], by rw [HTW.out]; exact HF.out.1, HF.out.2⟩
  · have HP : Hid (twice l a = (kept l, false)) := ht
    have hz : mgEq Mg.zero Mg.zero = true := (mgEq_iff _ _).2 rfl
    rw [hx, hz]
    clear hx hz ht
    have hB4 : Below w.heap.size w (w3.alloc (.cells #[.int .i64 0, .int .i64 0, .int .i64 0, .int .i64 0, .int .i64 0, .int .i64 0, .int .i64 0, .string ⟨#[]⟩, .string ⟨#[]⟩, .int .i64 0, .int .i64 0, .int .i64 0, .int .i64 0, .int .i64 0, .int .i64 0] 38)) := bw_call d3 (bw_alloc (Below.refl _ _))
    have T4 := T3.below (w' := w3.alloc (.cells #[.int .i64 0, .int .i64 0, .int .i64 0, .int .i64 0, .int .i64 0, .int .i64 0, .int .i64 0, .string ⟨#[]⟩, .string ⟨#[]⟩, .int .i64 0, .int .i64 0, .int .i64 0, .int .i64 0, .int .i64 0, .int .i64 0] 38)) (bw_alloc (Below.refl _ _))
    rw [show mgV Mg.zero = .agg #[.int .i64 0, .int .i64 0, .int .i64 0, .int .i64 0, .int .i64 0, .int .i64 0, .int .i64 0, .string ⟨#[]⟩, .string ⟨#[]⟩, .int .i64 0, .int .i64 0, .int .i64 0, .int .i64 0, .int .i64 0, .int .i64 0] from rfl]
    clear T3 d3
    go_wp2_with fail
    generalize w3.alloc (.cells #[.int .i64 0, .int .i64 0, .int .i64 0, .int .i64 0, .int .i64 0, .int .i64 0, .int .i64 0, .string ⟨#[]⟩, .string ⟨#[]⟩, .int .i64 0, .int .i64 0, .int .i64 0, .int .i64 0, .int .i64 0, .int .i64 0] 38) = W4 at *
    refine (letters_any b 60 _ _ T4 (fit_kept hf1)).mono ?_
    rintro e w5 ⟨v5, rfl, own5, b5⟩
    rw [letters_of] at own5
    have own6 := owns_mono own5 hB4.size
    have d6 := bw_call hB4 b5
    obtain ⟨o5, c5, rfl⟩ := own_slice own6
    have HF : Hid _ := And.intro own6 d6
    clear own5 own6 d6 hB4 b5 T4
    go_wp2_with fail
    exact bodyPost_ret (v := .tuple #[.slice o5 (kept l).length c5, .bool false]) (by simp [results, Try.results10, go_sem]) rfl ⟨_, by rw [HP.out], by rw [HP.out]; exact HF.out.1, HF.out.2⟩
end Go.Proofs.Ytgabhnhfomekfaa

