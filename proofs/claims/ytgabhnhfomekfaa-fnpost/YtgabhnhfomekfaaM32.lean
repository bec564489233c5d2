/-
  Contracts and plain laws, one chapter behind the other.
-/
import Derived.Test.YtgabhnhfomekfaaM28
import Derived.Test.YtgabhnhfomekfaaM31
namespace Go.Proofs.Ytgabhnhfomekfaa
open Go.RowKit

open Go.ChangeMaps (setBlock heap_setBlock_same heap_setBlock_other modify_eq_set)

set_option linter.unusedVariables false

set_option maxRecDepth 100000


theorem upto_set15 {w : World} {b : Nat} {o : Obj} : Upto b w (setBlock w b o) :=
  ⟨rfl, rfl, rfl, by simp [setBlock], fun k hk hne => by simp [setBlock, Ne.symm hne]⟩

theorem set_twice15 {w : World} {b : Nat} {o o' : Obj} : setBlock (setBlock w b o) b o' = setBlock w b o' := by simp [setBlock]

theorem bag_entry {w : World} {b n : Nat} {D : DataW Unit} (h : w.ownsMap Try.prog 38 bagR b n D) (hn : n < maxLen) {m : Mg} {kl : Lit} (hkl : keyOf Try.prog 38 (mgV m) = some kl) {c : Nat} (hc : D.atKey kl (setD 0) = setD c) :
    ∃ (st : Nat) (w1 : World) (u : Value), (Instr.mapEntry 49 (.map (some b)) (mgV m)).run Try.prog w = .ok (.tuple #[u, goInt st]) w1 ∧ Upto b w w1 ∧ (Instr.lookup 49 (.map (some b)) (mgV m) false).run Try.prog w1 = .ok (.int .u64 (c : Int)) w1 ∧
      ∀ d : Nat, d < 2 ^ 64 → ∃ w2, (Instr.entryStore 49 (.map (some b)) (goInt st) (.int .u64 (d : Int))).run Try.prog w1 = .ok () w2 ∧ w2.ownsMap Try.prog 38 bagR b (n + 1) (D.put kl (setD d)) ∧ Upto b w w2 := by
  have h0 := h
  obtain ⟨es, clock, hb, F, hs, hD⟩ := h
  obtain ⟨v0, st, es1, clock1, hrun, -, hst⟩ := WideElems.entry_then_store bagLaw Try.underlying49 (z := .int .u64 0) bagZero hb F hkl
  refine ⟨st, setBlock w b (.map es1 clock1), v0, hrun, upto_set15, ?_, fun d hd => ?_⟩
  · have key : ∃ D1 n1, (setBlock w b (.map es1 clock1)).ownsMap Try.prog 38 bagR b n1 D1 ∧ D1.atKey kl (setD 0) = setD c := by
      rcases bagKeys.find w hkl es.toList F.keys with ⟨h1, h2⟩ | ⟨j, e0, h1, h2, h3⟩
      · have r1 : (Instr.mapEntry 49 (.map (some b)) (mgV m)).run Try.prog w = .ok (.tuple #[.int .u64 0, goInt clock]) (setBlock w b (.map (es.push ⟨mgV m, .int .u64 0, clock⟩) (clock + 1))) := by
          simp [Instr.mapEntry, run_underlying Try.underlying49, MapKept.run_getObj_map hb, bagKeys.check w false hkl, h1, MapKept.run_setObj_map _ hb, Result.andThen, setBlock]
        have r2 : (Instr.mapUpdate 49 (.map (some b)) (mgV m) (.int .u64 0)).run Try.prog w = .ok () (setBlock w b (.map (es.push ⟨mgV m, .int .u64 0, clock⟩) (clock + 1))) := by
          simp [Instr.mapUpdate, run_underlying Try.underlying49, MapKept.run_getObj_map hb, bagKeys.check w false hkl, h1, MapKept.run_setObj_map _ hb, Result.andThen, setBlock]
        obtain ⟨w', r3, o3, -⟩ := h0.update bagKeys Try.underlying49 hn hkl (plainElem_int (H := Unit) Try.underlying72 (a := 0) (by decide))
        rw [r2] at r3
        injection r3 with _ r3
        rw [hrun] at r1
        injection r1 with _ r1
        rw [r1, r3]
        refine ⟨_, _, o3, ?_⟩
        have a1 := Maps.atKey_put_same (k := kl) (show Maps.IsMap D by rw [hD]; exact ⟨_, rfl⟩) (bagKeys.key hkl) (DataW.lit (.int .u64 0)) (setD 0)
        rw [a1]
        obtain ⟨c', r4, h4, -⟩ := h0.lookup_int bagKeys Try.underlying49 Try.underlying72 (bagZero w) hkl
        have r5 : (Instr.lookup 49 (.map (some b)) (mgV m) false).run Try.prog w = .ok (.int .u64 0) w := by
          simp [Instr.lookup, run_underlying Try.underlying49, MapKept.run_getObj_map hb, bagKeys.check w _ hkl, h1, Result.andThen]
        rw [r5] at r4
        injection r4 with r4 _
        injection r4 with _ r4
        rw [← r4] at h4
        exact h4.symm.trans hc
      · have hj : es[j]? = some e0 := by simpa using h2
        have hsame : es.modify j (fun e => { e with key := mgV m }) = es := by
          apply Array.ext'
          rw [Array.toList_modify, modify_eq_set _ _ _ _ h2]
          have e1 : ({ e0 with key := mgV m } : MapEntry) = e0 := by rw [← h3]
          rw [e1]
          exact WideElems.set_self _ _ _ h2
        have r1 : (Instr.mapEntry 49 (.map (some b)) (mgV m)).run Try.prog w = .ok (.tuple #[e0.val, goInt e0.born]) (setBlock w b (.map es clock)) := by
          simp [Instr.mapEntry, run_underlying Try.underlying49, MapKept.run_getObj_map hb, bagKeys.check w false hkl, h1, hj, h3, bagKeys.stays w hkl, hsame, MapKept.run_setObj_map _ hb, Result.andThen, setBlock]
        rw [hrun] at r1
        injection r1 with _ r1
        rw [r1]
        exact ⟨D, n, ⟨es, clock, heap_setBlock_same hb _, F, hs, hD⟩, hc⟩
    obtain ⟨D1, n1, o1, a1⟩ := key
    obtain ⟨c', r4, h4, -⟩ := o1.lookup_int bagKeys Try.underlying49 Try.underlying72 (bagZero _) hkl
    have e := h4.symm.trans a1
    simp only [setD, DataW.lit.injEq, Lit.int.injEq, true_and] at e
    rw [← e]
    exact r4
  · obtain ⟨es', clock', r1, r2⟩ := hst (setBlock w b (.map es1 clock1)) (.int .u64 (d : Int)) (heap_setBlock_same hb _)
    obtain ⟨w', r3, o3, -⟩ := h0.update bagKeys Try.underlying49 hn hkl (plainElem_int (H := Unit) Try.underlying72 (u64_wf hd))
    rw [r2] at r3
    injection r3 with _ r3
    rw [set_twice15] at r1
    exact ⟨_, r1, by rw [r3]; exact o3, upto_set15⟩

/-- What is known while such a region runs. p: the entry is asked for; q: it is stored; X: the world by these two. -/
structure RB (ops : Array Oper) (p q : Nat) (R : Nat → Value → Prop) (a0 : Act) (X : Bool → Bool → World) (L : Array Bool) (a : Act) (x : World) : Prop where
  df : a.defers = a0.defers
  sz : a.tmps.size = a0.tmps.size
  old : ∀ s, ops.toList.all (fun o => o.dst != some s) = true → a.tmps.getD s undef = a0.tmps.getD s undef
  rel : ∀ j s, L.getD j false = true → ((ops[j]?).bind (·.dst)) = some s → R j (a.tmps.getD s undef)
  wld : x = X (L.getD p false) (L.getD q false)

section
variable {ops : Array Oper} {p q : Nat} {R : Nat → Value → Prop} {a0 : Act} {X : Bool → Bool → World} {L : Array Bool} {a : Act} {x : World}

theorem RB.start (ops : Array Oper) (p q : Nat) (R : Nat → Value → Prop) (a0 : Act) (X : Bool → Bool → World) : RB ops p q R a0 X (Array.replicate ops.size false) a0 (X false false) := by
  have hn : ∀ j, (Array.replicate ops.size false).getD j false = false := fun j => by
    rw [Array.getD_eq_getD_getElem?, Array.getElem?_replicate]
    split <;> rfl
  exact ⟨rfl, rfl, fun _ _ => rfl, (fun j s h => by rw [hn] at h; cases h), by rw [hn, hn]⟩

theorem RB.gen (h : RB ops p q R a0 X L a x) (i s : Nat) (v : Value) (x' : World) (hi : ((ops[i]?).bind (·.dst)) = some s) (hs : s < a0.tmps.size) (hd : (ops.toList.all (fun o => o.dst != some s)) = false) (hu : uniqB ops s i = true)
    (hx : x' = X ((L.setIfInBounds i true).getD p false) ((L.setIfInBounds i true).getD q false)) (hv : R i v) : RB ops p q R a0 X (L.setIfInBounds i true) (a.put (some s) v) x' := by
  refine ⟨h.df, by show (a.tmps.setIfInBounds s v).size = _; rw [Array.size_setIfInBounds]; exact h.sz, fun r hr => ?_, fun j r hj hr => ?_, hx⟩
  · have hne : s ≠ r := fun e => by subst e; rw [hd] at hr; cases hr
    exact (tmps_other v hne).trans (h.old r hr)
  · show R j ((a.tmps.setIfInBounds s v).getD r undef)
    by_cases e : i = j
    · subst e
      rw [hi] at hr
      cases hr
      rw [tmps_self v (by rw [h.sz]; exact hs)]
      exact hv
    · have hne : s ≠ r := fun e2 => by subst e2; exact e (uniq_of hu j hr).symm
      rw [tmps_other v hne]
      rw [getD_other e] at hj
      exact h.rel j r hj hr

theorem RB.val (h : RB ops p q R a0 X L a x) (i s : Nat) (v : Value) (hp : i ≠ p) (hq : i ≠ q) (hi : ((ops[i]?).bind (·.dst)) = some s) (hs : s < a0.tmps.size) (hd : (ops.toList.all (fun o => o.dst != some s)) = false) (hu : uniqB ops s i = true) (hv : R i v) : RB ops p q R a0 X (L.setIfInBounds i true) (a.put (some s) v) x :=
  h.gen i s v x hi hs hd hu (by rw [getD_other hp, getD_other hq]; exact h.wld) hv

theorem RB.ent (h : RB ops p q R a0 X L a x) (hpq : p ≠ q) (s : Nat) (v : Value) (x' : World) (hL : p < L.size) (hi : ((ops[p]?).bind (·.dst)) = some s) (hs : s < a0.tmps.size) (hd : (ops.toList.all (fun o => o.dst != some s)) = false) (hu : uniqB ops s p = true) (hx : x' = X true (L.getD q false)) (hv : R p v) : RB ops p q R a0 X (L.setIfInBounds p true) (a.put (some s) v) x' :=
  h.gen p s v x' hi hs hd hu (by rw [getD_self hL, getD_other hpq]; exact hx) hv

theorem RB.sto (h : RB ops p q R a0 X L a x) (hpq : q ≠ p) (x' : World) (hL : q < L.size) (hd : ((ops[q]?).bind (·.dst)) = none) (hx : x' = X (L.getD p false) true) : RB ops p q R a0 X (L.setIfInBounds q true) a x' := by
  refine ⟨h.df, h.sz, h.old, fun j r hj hr => ?_, by rw [getD_self hL, getD_other hpq]; exact hx⟩
  by_cases e : q = j
  · subst e; rw [hd] at hr; cases hr
  · rw [getD_other e] at hj
    exact h.rel j r hj hr

theorem RB.frame (h : RB ops p q R a0 X L a x) (S : List Nat) (hS : frameB ops S a0.tmps.size = true) : a = Act.puts a0 (fun s => a.tmps.getD s undef) S := by
  have hd : a.defers = (Act.puts a0 (fun s => a.tmps.getD s undef) S).defers := by rw [puts_defers]; exact h.df
  have ht : a.tmps = (Act.puts a0 (fun s => a.tmps.getD s undef) S).tmps := by
    refine arr_ext (by rw [puts_size]; exact h.sz) (fun r hr => ?_)
    rw [puts_at _ S a0 r (by rw [← h.sz]; exact hr)]
    by_cases hm : r ∈ S
    · rw [if_pos hm]
    · rw [if_neg hm]
      exact h.old r (frame_of hS r (by rw [← h.sz]; exact hr) hm)
  generalize Act.puts a0 (fun s => a.tmps.getD s undef) S = b at hd ht
  cases a
  cases b
  simp only at hd ht
  rw [hd, ht]

end

theorem onlyPlace_any (p : Nat) (hp : p < 60) (w : World) : Calls Try.prog 43 #[.int .i64 (p : Int)] w fun e w' => e = .returned (.int .u64 ((2 ^ p : Nat) : Int)) ∧ w' = w := by
  have hlt : (2 ^ p : Nat) < 2 ^ 64 := Nat.pow_lt_pow_right (by decide) (by omega)
  have HZ : Hid (IntKind.u64.wrap ((2 : Int) ^ p) = ((2 ^ p : Nat) : Int)) := by
    have e : ((2 : Int) ^ p) = ((2 ^ p : Nat) : Int) := by simp
    rw [Hid, e]
    exact u64_in15 _ (Int.natCast_nonneg _) (by exact_mod_cast hlt)
  have h0 : ¬ ((p : Int) < 0) := by omega
  have hm : min p 64 = p := Nat.min_eq_left (by omega)
  clear hlt
  go_enter Try.func43, Try.ntmps43
  go_wp2_with fail
  go_ret
  exact ⟨congrArg (fun z => Ending.returned (Value.int .u64 z)) HZ.out, rfl⟩

theorem has_any (c p : Nat) (hc : c < 2 ^ 64) (hp : p < 60) (w : World) : Calls Try.prog 58 #[.int .u64 (c : Int), .int .i64 (p : Int)] w fun e w' => e = .returned (.bool (c.testBit p)) ∧ w' = w := by
  have ha := and15 hc (show p < 64 by omega)
  have hn : ((((c &&& 2 ^ p : Nat) : Int)) != 0) = c.testBit p := by
    rw [Bool.eq_iff_iff, bne_iff_ne, ← and_bit]
    omega
  have HN : Hid _ := hn
  have hq := onlyPlace_any p hp
  generalize ((2 ^ p : Nat) : Int) = z at ha hq
  generalize ((c &&& 2 ^ p : Nat) : Int) = y at ha HN
  clear hn
  go_enter Try.func58, Try.ntmps58
  go_wp2_with fail
  refine (hq _).mono ?_
  rintro e w' ⟨rfl, rfl⟩
  clear hq
  go_wp2_with fail
  go_ret
  exact ⟨ret_bool HN.out, rfl⟩
end Go.Proofs.Ytgabhnhfomekfaa

