/-
  Contracts and plain laws, one chapter behind the other.
-/
import Derived.Laws.CopyOwn
import Derived.Deep.MidRow
import Derived.Test.YtpmoefagpglddaaM01
import Derived.Test.YtpmoefagpglddaaM02
import Derived.Test.YtpmoefagpglddaaM04
import Derived.Test.YtpmoefagpglddaaM06
namespace Go.Proofs.Ytpmoefagpglddaa
open Go.RowKit

set_option linter.unusedVariables false

set_option maxRecDepth 100000


theorem run_copy_all {P : Program} (w : World) (T ty e : TypeId) (hu : P.underlying T = some (.slice e)) (hsz : (P.info? e).map (·.size) = some 1)
    (base g n cap : Nat) (ys news : List Value) (hown : w.ownsRow base e 1 (.slice (some ⟨g, 0, none⟩) n cap) n ys)
    (ad : Option Addr) (c : Nat) (hl : news.length = n) (hnews : ∀ j u, news[j]? = some u → ∃ g off, ad = some ⟨g, off, none⟩ ∧ w.cell? ⟨g, off + j, none⟩ = some u) (h1 : ∀ u ∈ news, u.oneCell' = true) :
    ∃ w', (Builtin.copy_ #[T, T] ty #[.slice (some ⟨g, 0, none⟩) n cap, .slice ad n c]).run P w = .ok (.int .i64 n) w' ∧ w'.ownsRow base e 1 (.slice (some ⟨g, 0, none⟩) n cap) n news ∧ Upto g w w' := by
  rcases Nat.eq_zero_or_pos n with hn | hn
  · subst hn
    have e1 : news = [] := List.length_eq_zero_iff.1 hl
    have e2 : ys = [] := List.length_eq_zero_iff.1 (by simpa using hown.1)
    subst e1
    subst e2
    exact ⟨w, run_copy_none (P := P) w T T ty e _ _ 0 cap 0 c hu hsz rfl, hown, Upto.refl _ _⟩
  · obtain ⟨g', off, rfl, _⟩ := hnews 0 _ (List.getElem?_eq_getElem (show 0 < news.length by omega))
    have hsrc : ∀ j v, news[j]? = some v → w.cell? ((⟨g', off, none⟩ : Addr).add j) = some v := fun j u hj => by
      obtain ⟨g2, off2, e2, hc⟩ := hnews j u hj
      cases e2
      have ea : (⟨g', off, none⟩ : Addr).add j = ⟨g', off + j, none⟩ := by unfold Addr.add; split <;> simp_all
      rw [ea]; exact hc
    rcases hown.2 with ⟨h', _⟩ | ⟨g2, cap2, cur, h', hbg, hg, hnc, hcm, hcs, htake⟩
    · cases h'
    · simp only [Value.slice.injEq, Option.some.injEq, Addr.mk.injEq, and_true, true_and] at h'
      obtain ⟨rfl, rfl⟩ := h'
      have hr := run_copy_row (P := P) w T T ty e g 0 n cap ⟨g', off, none⟩ n c cur e news hu hsz hg (by rw [hl]; exact (Nat.min_self n).symm) hsrc (by omega) h1
      rw [hl] at hr
      refine ⟨_, hr, ⟨by omega, .inr ⟨g, cap, _, rfl, hbg, setRow_heap w g cur _ e _ hg, hnc, hcm, ?_, ?_⟩⟩, ⟨rfl, rfl, rfl, by simp, fun k _ hk => setRow_other w g k _ hk⟩⟩
      · simp; omega
      · rw [Nat.mul_one, List.take_zero, List.nil_append, ← hl]
        exact List.take_left
end Go.Proofs.Ytpmoefagpglddaa

namespace Go.Proofs.Ytpmoefagpglddaa
open Go.RowKit

set_option linter.unusedVariables false

set_option maxRecDepth 100000


set_option maxHeartbeats 800000 in
theorem sameNumbers_any (v : Value) (xs : List Int) (w : World) (hn : xs.length ≤ 1048576) (h : Reads w.heap.size w v (xs.map (Value.int .i64))) :
    Calls Try.prog 58 #[v] w fun e w' => ∃ v' : Value, e = .returned v' ∧ w'.ownsRow w.heap.size 2 1 v' xs.length (xs.map (Value.int .i64)) ∧ v' ≠ .slice none 0 0 ∧ Below w.heap.size w w' := by
  obtain ⟨i0, hi, hz0, hz1, hz2⟩ := info_parts Try.infoI64
  obtain ⟨o, cap, rfl, hm, hc, hroom⟩ := h
  have hl : (xs.map (Value.int .i64)).length = xs.length := by simp
  rw [hl] at hm ⊢
  obtain ⟨M, hM, hmk, hown⟩ := made_ints xs.length hn
  have own0 := hown w w.heap.size (Nat.le_refl _)
  have d0 : Below w.heap.size w (w.alloc (.cells M 2)) := bw_alloc (Below.refl _ _)
  have HC : Hid (∀ j u, (xs.map (Value.int .i64))[j]? = some u → ∃ g off, o = some ⟨g, off, none⟩ ∧ (w.alloc (.cells M 2)).cell? ⟨g, off + j, none⟩ = some u) := fun j u hj => by
    obtain ⟨g, off, e, hg, hx⟩ := hc j u hj
    exact ⟨g, off, e, (d0.cell (p := ⟨g, off + j, none⟩) hg).trans hx⟩
  obtain ⟨w', hrun, hown2, hu⟩ := run_copy_all (P := Try.prog) (w.alloc (.cells M 2)) 24 3 2 Try.underlying24 (by rw [hi]; simp [hz1]) w.heap.size w.heap.size xs.length xs.length _ (xs.map (Value.int .i64)) own0 o cap hl HC.out (fun u hu => by simp at hu; obtain ⟨a, _, rfl⟩ := hu; rfl)
  have hb : Below w.heap.size w w' := d0.trans (hu.toBelow (by simp) (Nat.le_refl _))
  have HO : Hid _ := hown2
  clear own0 d0 HC hu hc hl hown hM hown2
  have hm8 : xs.length ≤ 9223372036854775807 := by omega
  go_enter Try.func58, Try.ntmps58
  go_wp2_with fail
  go_ret
  exact ⟨_, rfl, HO.out, by simp, hb⟩
end Go.Proofs.Ytpmoefagpglddaa

namespace Go.Proofs.Ytpmoefagpglddaa
open Go.RowKit

set_option linter.unusedVariables false


/-- copy(dst, src) into a part of a block; an element takes k cells. -/
theorem run_copyK {P : Program} (w : World) (dT sT ty elem : TypeId) (k g o dLen dCap : Nat) (a : Addr) (sLen sCap : Nat) (cur : Array Value) (t : TypeId) (cs : List Value)
    (hu : P.underlying dT = some (.slice elem)) (hs : (P.info? elem).map (·.size) = some k)
    (hg : w.heap[g]? = some (.cells cur t (0, 0))) (hn : cs.length = Nat.min sLen dLen * k)
    (hsrc : ∀ j v, cs[j]? = some v → w.cell? (a.add j) = some v) (hfit : o + cs.length ≤ cur.size) (h1 : ∀ v ∈ cs, v.oneCell' = true) :
    (Builtin.copy_ #[dT, sT] ty #[.slice (some ⟨g, o, none⟩) dLen dCap, .slice (some a) sLen sCap]).run P w =
      .ok (goInt (Nat.min sLen dLen)) (w.setRow g (cur.toList.take o ++ cs ++ cur.toList.drop (o + cs.length)).toArray) := by
  have hl := run_loadCells_list (P := P) w a cs hsrc
  have hst := run_storeCells_at P g o t cs 0 cur w hg (by simpa using hfit) h1
  cases hq : P.info? elem with
  | none => simp [hq] at hs
  | some i =>
    have hi : i.size = k := by simpa [hq] using hs
    simp [Builtin.copy_, run_underlying hu, Builtin.lenOf, Builtin.firstCells, sizeOf, typeInfo, hq, hi, ← hn, hl, hst]

theorem load_part {P : Program} {w : World} {g o : Nat} {cs : Array Value} {xs : List Value} {t ty : TypeId} {d : TypeDesc} (hg : w.heap[g]? = some (.cells cs t (0, 0))) (hx : ∀ j v, xs[j]? = some v → cs[o + j]? = some v) (hu : P.underlying ty = some d) (hd : d.isRow = true) (hi : (P.info? ty).map (·.size) = some xs.length) :
    (Instr.loadAt ty (.pointer (some ⟨g, o, none⟩))).run P w = .ok (.agg xs.toArray) w :=
  run_loadAt_mid w g o ty xs d (fun j v hj => (at_cell hg (o + j)).trans (hx j v hj)) hu hd hi

theorem sizeI64 : (Try.prog.info? 2).map (·.size) = some 1 := by kernel_rfl

theorem sizeTold : (Try.prog.info? 62).map (·.size) = some 12 := by kernel_rfl

theorem sizeTags : (Try.prog.info? 59).map (·.size) = some 4 := by kernel_rfl

theorem sizeRep : (Try.prog.info? 29).map (·.size) = some 2 := by kernel_rfl

theorem setRow_upto {w : World} {g : Nat} {cs : Array Value} : Upto g w (w.setRow g cs) := by
  refine ⟨rfl, rfl, rfl, by simp [World.setRow], fun k hk hne => ?_⟩
  simp only [World.setRow, Array.getElem?_modify]
  rw [if_neg (fun e => hne e.symm)]

theorem Upto.undrewM {c : Nat} {w w' : World} (u : Upto c w.drew w') : Upto c w w' := ⟨u.os, u.tape, u.output, u.size, u.block⟩

theorem add_offM (g a j : Nat) : (⟨g, a, none⟩ : Addr).add j = ⟨g, a + j, none⟩ := by unfold Addr.add; split <;> simp_all

theorem src_row {B : Nat} {w : World} {o : Option Addr} {n cap : Nat} {xs : List Int} (h : Reads B w (.slice o n cap) (xs.map (Value.int .i64))) (h0 : 0 < xs.length) : ∃ g off, o = some ⟨g, off, none⟩ ∧ g < B ∧ ∀ j v, (xs.map (Value.int .i64))[j]? = some v → w.cell? ((⟨g, off, none⟩ : Addr).add j) = some v := by
  obtain ⟨o', cap', e, -, hc, -⟩ := h
  simp only [Value.slice.injEq] at e
  obtain ⟨rfl, -, -⟩ := e
  obtain ⟨g, off, rfl, hg, -⟩ := hc 0 _ (List.getElem?_eq_getElem (by simpa using h0))
  refine ⟨g, off, rfl, hg, cells_add fun j u hj => ?_⟩
  obtain ⟨g', off', e, -, hx⟩ := hc j u hj
  simp only [Option.some.injEq, Addr.mk.injEq, and_true] at e
  obtain ⟨rfl, rfl⟩ := e
  exact hx

set_option maxRecDepth 100000 in
set_option maxHeartbeats 6400000 in
theorem lastTold_yes (v1 v2 : Value) (a b c d a0 a1 b0 b1 c0 c1 e0 e1 : Int) (w : World) (r : RM w.heap.size w v1 v2 [a, b, c, d] [(a0, a1), (b0, b1), (c0, c1), (e0, e1)]) :
    Calls Try.prog 31 #[.agg #[v1, v2]] w fun e w' => e = .returned (.tuple #[.agg #[.int .i64 a, .int .i64 b, .int .i64 c, .int .i64 d, .int .i64 a0, .int .i64 a1, .int .i64 b0, .int .i64 b1, .int .i64 c0, .int .i64 c1, .int .i64 e0, .int .i64 e1], .bool (memOk [a, b, c, d] [(a0, a1), (b0, b1), (c0, c1), (e0, e1)])]) ∧ Below w.heap.size w w' := by
  obtain ⟨o1, cap1, o2, cap2, e1', e2'⟩ := r.forms
  have e1'' : v1 = .slice o1 4 cap1 := e1'
  have e2'' : v2 = .slice o2 4 cap2 := e2'
  subst e1'' e2''
  clear e1' e2'
  obtain ⟨g1, of1, rfl, q1, hs1⟩ := src_row r.t (by simp)
  obtain ⟨g2, of2, rfl, q2⟩ : ∃ g2 of2, o2 = some ⟨g2, of2, none⟩ ∧ g2 < w.heap.size := by
    obtain ⟨o', cap', e, -, hc, -⟩ := r.r
    simp only [Value.slice.injEq] at e
    obtain ⟨rfl, -, -⟩ := e
    obtain ⟨g, off, e, hg, -⟩ := hc 0 _ rfl
    exact ⟨g, off, e, hg⟩
  have HV : Hid (memOk [a, b, c, d] [(a0, a1), (b0, b1), (c0, c1), (e0, e1)] = (tagN [a, b, c, d] 4 && repN [a, b, c, d] [(a0, a1), (b0, b1), (c0, c1), (e0, e1)] 4)) := memOk_by rfl rfl
  have hs2 : ∀ W', Below w.heap.size w W' → ∀ j u, ([(a0, a1), (b0, b1), (c0, c1), (e0, e1)].flatMap repC)[j]? = some u → W'.cell? ((⟨g2, of2, none⟩ : Addr).add j) = some u := fun W' b => flat_srcM repC_len (by decide) (r.r.below b)
  have hs1' : ∀ W', Below w.heap.size w W' → ∀ j u, ([a, b, c, d].map (Value.int .i64))[j]? = some u → W'.cell? ((⟨g1, of1, none⟩ : Addr).add j) = some u := fun W' b j u hj => by
    rw [add_offM]
    have := hs1 j u hj
    rw [add_offM] at this
    exact (b.cell (p := ⟨g1, of1 + j, none⟩) q1).trans this
  obtain ⟨W0, hW0, k0, k1, k2, d0, z0⟩ := box3 w #[.slice (some ⟨g1, of1, none⟩) 4 cap1, .slice (some ⟨g2, of2, none⟩) 4 cap2] #[.int .i64 0, .int .i64 0, .int .i64 0, .int .i64 0, .int .i64 0, .int .i64 0, .int .i64 0, .int .i64 0, .int .i64 0, .int .i64 0, .int .i64 0, .int .i64 0] #[.int .i64 0, .int .i64 0, .int .i64 0, .int .i64 0, .int .i64 0, .int .i64 0, .int .i64 0, .int .i64 0, .int .i64 0, .int .i64 0, .int .i64 0, .int .i64 0] 27 62 62
  have HW0 : Hid (W0 = _) := hW0
  clear hW0 z0 hs1 r
  go_enter Try.func31, Try.ntmps31
  go_upto_region 4 with fail
  rw [← HW0.out]
  clear HW0
  have hone1 : ∀ v ∈ [a, b, c, d].map (Value.int .i64), v.oneCell' = true := fun v hv => by obtain ⟨x, _, rfl⟩ := List.mem_map.1 hv; rfl
  obtain ⟨W2, hW2⟩ : ∃ W2, W2 = W0.drew.setRow (w.heap.size + 1 + 1) #[.int .i64 a, .int .i64 b, .int .i64 c, .int .i64 d, .int .i64 0, .int .i64 0, .int .i64 0, .int .i64 0, .int .i64 0, .int .i64 0, .int .i64 0, .int .i64 0] := ⟨_, rfl⟩
  have hrun1 : (Builtin.copy_ #[24, 24] 3 #[.slice (some ⟨w.heap.size + 1 + 1, 0, none⟩) 4 4, .slice (some ⟨g1, of1, none⟩) 4 cap1]).run Try.prog W0.drew = .ok (.int .i64 4) W2 := by
    rw [hW2]
    exact run_copyK (P := Try.prog) W0.drew 24 24 3 2 1 (w.heap.size + 1 + 1) 0 4 4 ⟨g1, of1, none⟩ 4 cap1 #[.int .i64 0, .int .i64 0, .int .i64 0, .int .i64 0, .int .i64 0, .int .i64 0, .int .i64 0, .int .i64 0, .int .i64 0, .int .i64 0, .int .i64 0, .int .i64 0] 62 ([a, b, c, d].map (Value.int .i64)) Try.underlying24 sizeI64 k2 rfl (hs1' W0.drew (bw_drew d0)) (by simp) hone1
  have u2 : Upto (w.heap.size + 1 + 1) W0 W2 := by rw [hW2]; exact (setRow_upto (w := W0.drew)).undrewM
  have k22 : W2.heap[w.heap.size + 1 + 1]? = some (.cells #[.int .i64 a, .int .i64 b, .int .i64 c, .int .i64 d, .int .i64 0, .int .i64 0, .int .i64 0, .int .i64 0, .int .i64 0, .int .i64 0, .int .i64 0, .int .i64 0] 62 (0, 0)) := by rw [hW2]; exact setRow_row (w := W0.drew) k2
  have k02 := (u2.block _ (heap_lt k0) (by omega)).trans k0
  have k12 := (u2.block _ (heap_lt k1) (by omega)).trans k1
  have d2 := d0.trans (u2.toBelow d0.size (by omega))
  have p0 : W0.drew.cell? ⟨w.heap.size, 0, none⟩ = some (.slice (some ⟨g1, of1, none⟩) 4 cap1) := at_cell k0 0
  have p0' := at_cell k0 0
  clear hW2 u2 k0 k1 k2 hs1' hone1 d0
  go_region_law (fail)
  clear hrun1 p0 p0'
  obtain ⟨W3, hW3⟩ : ∃ W3, W3 = W2.drew.setRow (w.heap.size + 1 + 1) #[.int .i64 a, .int .i64 b, .int .i64 c, .int .i64 d, .int .i64 a0, .int .i64 a1, .int .i64 b0, .int .i64 b1, .int .i64 c0, .int .i64 c1, .int .i64 e0, .int .i64 e1] := ⟨_, rfl⟩
  have hrun2 : (Builtin.copy_ #[25, 25] 3 #[.slice (some ⟨w.heap.size + 1 + 1, 4, none⟩) 4 4, .slice (some ⟨g2, of2, none⟩) 4 cap2]).run Try.prog W2.drew = .ok (.int .i64 4) W3 := by
    rw [hW3]
    exact run_copyK (P := Try.prog) W2.drew 25 25 3 29 2 (w.heap.size + 1 + 1) 4 4 4 ⟨g2, of2, none⟩ 4 cap2 #[.int .i64 a, .int .i64 b, .int .i64 c, .int .i64 d, .int .i64 0, .int .i64 0, .int .i64 0, .int .i64 0, .int .i64 0, .int .i64 0, .int .i64 0, .int .i64 0] 62 ([(a0, a1), (b0, b1), (c0, c1), (e0, e1)].flatMap repC) Try.underlying25 sizeRep k22 rfl (hs2 W2.drew (bw_drew d2)) (by simp [repC]) (reps_one _)
  have u3 : Upto (w.heap.size + 1 + 1) W2 W3 := by rw [hW3]; exact (setRow_upto (w := W2.drew)).undrewM
  have k23 : W3.heap[w.heap.size + 1 + 1]? = some (.cells #[.int .i64 a, .int .i64 b, .int .i64 c, .int .i64 d, .int .i64 a0, .int .i64 a1, .int .i64 b0, .int .i64 b1, .int .i64 c0, .int .i64 c1, .int .i64 e0, .int .i64 e1] 62 (0, 0)) := by rw [hW3]; exact setRow_row (w := W2.drew) k22
  have k13 := (u3.block _ (heap_lt k12) (by omega)).trans k12
  have d3 := d2.trans (u3.toBelow d2.size (by omega))
  have p0 : W2.drew.cell? ⟨w.heap.size, 1, none⟩ = some (.slice (some ⟨g2, of2, none⟩) 4 cap2) := at_cell k02 1
  have p0' := at_cell k02 1
  clear hW3 u3 k02 k12 k22 hs2 d2
  go_wp2_with fail
  go_region_law (fail)
  clear hrun2 p0 p0' W2 W0
  have s13 := heap_lt k13
  have s23 := heap_lt k23
  have LT : ∀ X, Below W3.heap.size W3 X → (Instr.loadAt 59 (.pointer (some ⟨w.heap.size + 1 + 1, 0, none⟩))).run Try.prog X = .ok (.agg #[.int .i64 a, .int .i64 b, .int .i64 c, .int .i64 d]) X := fun X bX =>
    load_part (o := 0) (xs := [.int .i64 a, .int .i64 b, .int .i64 c, .int .i64 d]) ((bX.block _ s23).trans k23) (fun j v hj => by
      match j, hj with
      | 0, hj | 1, hj | 2, hj | 3, hj => simpa using hj) Try.underlying59 rfl sizeTags
  have HTR := fun W => tagsRight_any a b c d W
  have HRR := fun W => repliesRight_any a b c d a0 a1 b0 b1 c0 c1 e0 e1 W
  have HC1 : ∀ X, Below W3.heap.size W3 X → X.heap[w.heap.size + 1]? = some (.cells #[.int .i64 0, .int .i64 0, .int .i64 0, .int .i64 0, .int .i64 0, .int .i64 0, .int .i64 0, .int .i64 0, .int .i64 0, .int .i64 0, .int .i64 0, .int .i64 0] 62 (0, 0)) := fun X bX => (bX.block _ s13).trans k13
  obtain ⟨TA, hTA⟩ : ∃ TA : Array Value, #[.int .i64 a, .int .i64 b, .int .i64 c, .int .i64 d, .int .i64 a0, .int .i64 a1, .int .i64 b0, .int .i64 b1, .int .i64 c0, .int .i64 c1, .int .i64 e0, .int .i64 e1] = TA := ⟨_, rfl⟩
  have HTA : Hid (#[.int .i64 a, .int .i64 b, .int .i64 c, .int .i64 d, .int .i64 a0, .int .i64 a1, .int .i64 b0, .int .i64 b1, .int .i64 c0, .int .i64 c1, .int .i64 e0, .int .i64 e1] = TA) := hTA
  have hsz : TA.size = 12 := by rw [← hTA]; rfl
  have hone : TA.all (·.oneCell') = true := one_cells [a, b, c, d, a0, a1, b0, b1, c0, c1, e0, e1] TA (by rw [← hTA]; rfl)
  rw [hTA] at k23 HRR
  have HC2 : ∀ X, Below W3.heap.size W3 X → X.heap[w.heap.size + 1 + 1]? = some (.cells TA 62 (0, 0)) := fun X bX => (bX.block _ s23).trans k23
  have FIN : Hid (∀ X, Below W3.heap.size W3 X → (loadVar 62 ⟨w.heap.size + 1, 0, none⟩).run Try.prog (X.setRow (w.heap.size + 1) TA) = .ok (.agg TA) (X.setRow (w.heap.size + 1) TA) ∧ Below w.heap.size w (X.setRow (w.heap.size + 1) TA)) := fun X bX =>
    ⟨run_loadVar_row (P := Try.prog) _ (w.heap.size + 1) 62 62 TA (0, 0) _ (setRow_row ((bX.block _ s13).trans k13)) Try.underlying62 rfl (by rw [hsz]; exact sizeTold), (bw_call d3 bX).trans (setRow_below (by omega))⟩
  generalize tagN [a, b, c, d] 4 = bT at HV HTR
  generalize repN [a, b, c, d] [(a0, a1), (b0, b1), (c0, c1), (e0, e1)] 4 = bR at HV HRR
  obtain ⟨R, hR0⟩ : ∃ R : Nat → Value → Prop, R = fun j v => match j with
    | 0 => v = .agg TA
    | 1 => v = .pointer (some ⟨w.heap.size + 1 + 1, 0, none⟩)
    | 2 => v = .agg #[.int .i64 a, .int .i64 b, .int .i64 c, .int .i64 d]
    | 3 => v = .bool bT
    | 4 => v = .bool bT
    | 5 => bT = true → v = .agg TA
    | 6 => bT = true → v = .bool bR
    | 7 => v = .bool (bT && bR)
    | 9 => v = .bool (bT && bR)
    | _ => True := ⟨_, rfl⟩
  have hR : Hid _ := hR0
  have HTAH : Hid _ := hTA
  clear hR0 hTA k23 k13 d3
  go_wp2_with fail
  refine wp_region_inv (I := R1 _ 8 R _ W3 (fun X => X.setRow (w.heap.size + 1) TA)) (by kernel_rfl) (R1.start _ 8 _ _ W3 _) ?_ ?_
  · intro L a' x i hL hD hi h
    have hi10 : i < 10 := (ready_mem hi).1
    have hnot := (ready_mem hi).2.1
    have hc : i = 0 ∨ i = 1 ∨ i = 2 ∨ i = 3 ∨ i = 4 ∨ i = 5 ∨ i = 6 ∨ i = 7 ∨ i = 8 ∨ i = 9 := by omega
    have e4 := h.old 4 (by kernel_rfl)
    have e2 := h.old 2 (by kernel_rfl)
    rcases hc with rfl | rfl | rfl | rfl | rfl | rfl | rfl | rfl | rfl | rfl
    · have hn := hD.not (i := 8) (k := 0) (by kernel_rfl) hnot
      refine wpOp_of rfl rfl (op_load 62 4 rfl (w.heap.size + 1 + 1) e4 TA 62 (0, 0) (HC2 x (h.bel hn)) _ Try.underlying62 rfl (by rw [hsz]; exact sizeTold) ?_)
      exact h.val 0 27 _ x (by decide) (by kernel_rfl) (of_decide_eq_true (by kernel_rfl)) (by kernel_rfl) (by kernel_rfl) (.inr rfl) (by rw [hR.out]; exact rfl)
    · refine wpOp_of rfl rfl ?_
      unfold Oper.wp
      go_simp
      exact h.val 1 28 _ x (by decide) (by kernel_rfl) (of_decide_eq_true (by kernel_rfl)) (by kernel_rfl) (by kernel_rfl) (.inr rfl) (by rw [hR.out]; exact rfl)
    · have hn : L.getD 8 false = false := by
        rw [Bool.eq_false_iff]
        intro h8
        have h6 := hD 8 6 h8 (by kernel_rfl)
        have h5 := hD 6 5 h6 (by kernel_rfl)
        have h4 := hD 5 4 h5 (by kernel_rfl)
        have h3 := hD 4 3 h4 (by kernel_rfl)
        have h2 := hD 3 2 h3 (by kernel_rfl)
        have := not_done hnot
        rw [h2] at this
        cases this
      have e28 := h.rel 1 28 (ready_dep hi (by kernel_rfl)) (by kernel_rfl)
      rw [hR.out] at e28
      have e28' : a'.tmps.getD 28 undef = .pointer (some ⟨w.heap.size + 1 + 1, 0, none⟩) := e28
      refine wpOp_of rfl rfl (op_loadAt 59 28 rfl _ e28' _ (LT x (h.bel hn)) ?_)
      exact h.val 2 29 _ x (by decide) (by kernel_rfl) (of_decide_eq_true (by kernel_rfl)) (by kernel_rfl) (by kernel_rfl) (.inr rfl) (by rw [hR.out]; exact rfl)
    · have hn : L.getD 8 false = false := by
        rw [Bool.eq_false_iff]
        intro h8
        have h6 := hD 8 6 h8 (by kernel_rfl)
        have h5 := hD 6 5 h6 (by kernel_rfl)
        have h4 := hD 5 4 h5 (by kernel_rfl)
        have h3 := hD 4 3 h4 (by kernel_rfl)
        have := not_done hnot
        rw [h3] at this
        cases this
      have e29 := h.rel 2 29 (ready_dep hi (by kernel_rfl)) (by kernel_rfl)
      rw [hR.out] at e29
      have e29' : a'.tmps.getD 29 undef = .agg #[.int .i64 a, .int .i64 b, .int .i64 c, .int .i64 d] := e29
      clear e29
      refine wpOp_of rfl rfl ?_
      unfold Oper.wp
      go_simp
      go_at_call 53
      refine (HTR _).mono ?_
      rintro e x1 ⟨rfl, b1⟩
      exact h.val 3 30 _ x1 (by decide) (by kernel_rfl) (of_decide_eq_true (by kernel_rfl)) (by kernel_rfl) (by kernel_rfl) (.inl ⟨hn, b1⟩) (by rw [hR.out]; exact rfl)
    · have e30 := h.rel 3 30 (ready_dep hi (by kernel_rfl)) (by kernel_rfl)
      rw [hR.out] at e30
      have e30' : a'.tmps.getD 30 undef = .bool bT := e30
      refine wpOp_of rfl rfl (op_move 30 rfl ?_)
      rw [e30']
      exact h.val 4 31 _ x (by decide) (by kernel_rfl) (of_decide_eq_true (by kernel_rfl)) (by kernel_rfl) (by kernel_rfl) (.inr rfl) (by rw [hR.out]; exact rfl)
    · have e31 := h.rel 4 31 (ready_dep hi (by kernel_rfl)) (by kernel_rfl)
      rw [hR.out] at e31
      have e31' : a'.tmps.getD 31 undef = .bool bT := e31
      have hn : L.getD 8 false = false := by
        rw [Bool.eq_false_iff]
        intro h8
        have h6 := hD 8 6 h8 (by kernel_rfl)
        have h5 := hD 6 5 h6 (by kernel_rfl)
        have := not_done hnot
        rw [h5] at this
        cases this
      refine wpOp_guard (j := 4) (s := 31) (b := bT) (want := true) rfl rfl (by kernel_rfl) (getD_get e31' (by rw [h.sz]; exact of_decide_eq_true (by kernel_rfl))) (fun eb => ?_) (fun eb => ?_)
      · refine op_load 62 4 rfl (w.heap.size + 1 + 1) e4 TA 62 (0, 0) (HC2 x (h.bel hn)) _ Try.underlying62 rfl (by rw [hsz]; exact sizeTold) ?_
        exact h.val 5 32 _ x (by decide) (by kernel_rfl) (of_decide_eq_true (by kernel_rfl)) (by kernel_rfl) (by kernel_rfl) (.inr rfl) (by rw [hR.out]; exact fun _ => rfl)
      · exact h.val 5 32 _ x (by decide) (by kernel_rfl) (of_decide_eq_true (by kernel_rfl)) (by kernel_rfl) (by kernel_rfl) (.inr rfl) (by rw [hR.out]; exact fun e => absurd e eb)
    · have e31 := h.rel 4 31 (ready_dep hi (by kernel_rfl)) (by kernel_rfl)
      have e32 := h.rel 5 32 (ready_dep hi (by kernel_rfl)) (by kernel_rfl)
      rw [hR.out] at e31 e32
      have e31' : a'.tmps.getD 31 undef = .bool bT := e31
      have hn := hD.not (i := 8) (k := 6) (by kernel_rfl) hnot
      refine wpOp_guard (j := 4) (s := 31) (b := bT) (want := true) rfl rfl (by kernel_rfl) (getD_get e31' (by rw [h.sz]; exact of_decide_eq_true (by kernel_rfl))) (fun eb => ?_) (fun eb => ?_)
      · have e32' : a'.tmps.getD 32 undef = .agg TA := e32 eb
        clear e31 e32
        unfold Oper.wp
        go_simp
        go_at_call 54
        refine (HRR _).mono ?_
        rintro e x1 ⟨rfl, b1⟩
        exact h.val 6 33 _ x1 (by decide) (by kernel_rfl) (of_decide_eq_true (by kernel_rfl)) (by kernel_rfl) (by kernel_rfl) (.inl ⟨hn, b1⟩) (by rw [hR.out]; exact fun _ => rfl)
      · exact h.val 6 33 _ x (by decide) (by kernel_rfl) (of_decide_eq_true (by kernel_rfl)) (by kernel_rfl) (by kernel_rfl) (.inr rfl) (by rw [hR.out]; exact fun e => absurd e eb)
    · have e31 := h.rel 4 31 (ready_dep hi (by kernel_rfl)) (by kernel_rfl)
      have e33 := h.rel 6 33 (ready_dep hi (by kernel_rfl)) (by kernel_rfl)
      rw [hR.out] at e31 e33
      have e31' : a'.tmps.getD 31 undef = .bool bT := e31
      refine wpOp_of rfl rfl ?_
      cases bT
      · clear e31 e33
        unfold Oper.wp
        go_simp
        exact h.val 7 34 _ x (by decide) (by kernel_rfl) (of_decide_eq_true (by kernel_rfl)) (by kernel_rfl) (by kernel_rfl) (.inr rfl) (by rw [hR.out]; exact rfl)
      · have e33' : a'.tmps.getD 33 undef = .bool bR := e33 rfl
        clear e31 e33
        unfold Oper.wp
        go_simp
        exact h.val 7 34 _ x (by decide) (by kernel_rfl) (of_decide_eq_true (by kernel_rfl)) (by kernel_rfl) (by kernel_rfl) (.inr rfl) (by rw [hR.out]; exact rfl)
    · have hn := not_done hnot
      have e27 := h.rel 0 27 (ready_dep hi (by kernel_rfl)) (by kernel_rfl)
      rw [hR.out] at e27
      have e27' : a'.tmps.getD 27 undef = .agg TA := e27
      refine wpOp_of rfl rfl (op_store 62 2 27 rfl rfl (w.heap.size + 1) e2 TA e27' #[.int .i64 0, .int .i64 0, .int .i64 0, .int .i64 0, .int .i64 0, .int .i64 0, .int .i64 0, .int .i64 0, .int .i64 0, .int .i64 0, .int .i64 0, .int .i64 0] 62 (HC1 x (h.bel hn)) (by rw [hsz]; exact sizeTold) (by rw [hsz]; rfl) hone ?_)
      exact h.store (by rw [hL]; exact of_decide_eq_true (by kernel_rfl)) hn (by kernel_rfl)
    · have e34 := h.rel 7 34 (ready_dep hi (by kernel_rfl)) (by kernel_rfl)
      rw [hR.out] at e34
      have e34' : a'.tmps.getD 34 undef = .bool (bT && bR) := e34
      refine wpOp_of rfl rfl (op_assign 34 rfl ?_)
      rw [e34']
      exact h.val 9 3 _ x (by decide) (by kernel_rfl) (of_decide_eq_true (by kernel_rfl)) (by kernel_rfl) (by kernel_rfl) (.inr rfl) (by rw [hR.out]; exact rfl)
  · intro L a' x hL hD hr h
    have hall := all_done hL hr (by kernel_rfl)
    obtain ⟨X, bX, rfl⟩ := h.fin (hall 8 (of_decide_eq_true (by kernel_rfl)))
    have e3 := h.rel 9 3 (hall 9 (of_decide_eq_true (by kernel_rfl))) (by kernel_rfl)
    rw [hR.out] at e3
    have e3' : a'.tmps.getD 3 undef = .bool (bT && bR) := e3
    have hfr := h.frame [3, 27, 28, 29, 30, 31, 32, 33, 34] (by kernel_rfl)
    obtain ⟨f, hf⟩ : ∃ f : Nat → Value, (fun s => a'.tmps.getD s undef) = f := ⟨_, rfl⟩
    rw [hf] at hfr
    have f3 : f 3 = .bool (bT && bR) := by rw [← hf]; exact e3'
    have HF : Hid _ := FIN.out X bX
    clear hf e3 e3' h hall hr hD hL hR HC1 HC2 FIN bX HTR HRR LT
    subst hfr
    simp only [Act.puts, f3, Act.put, List.setIfInBounds_toArray, List.set_cons_succ, List.set_cons_zero]
    generalize f 27 = u27
    generalize f 28 = u28
    generalize f 29 = u29
    generalize f 30 = u30
    generalize f 31 = u31
    generalize f 32 = u32
    generalize f 33 = u33
    generalize f 34 = u34
    clear f3 f
    show Exit.then _ _ _ _ _
    go_wp2_with fail
    refine bodyPost_ret (v := .tuple #[.agg TA, .bool (bT && bR)]) ?_ rfl ⟨by rw [HTA.out, HV.out], HF.out.2⟩
    simp [results, Try.results31, asAddr, HF.out.1]
end Go.Proofs.Ytpmoefagpglddaa

namespace Go.Proofs.Ytpmoefagpglddaa
open Go.RowKit

set_option linter.unusedVariables false


set_option maxRecDepth 100000 in
set_option maxHeartbeats 3200000 in
theorem lastTold_no (v1 v2 : Value) (ts : List Int) (rs : List (Int × Int)) (w : World) (h : ¬ (ts.length = 4 ∧ rs.length = 4)) (r : RM w.heap.size w v1 v2 ts rs) :
    Calls Try.prog 31 #[.agg #[v1, v2]] w fun e w' => e = .returned (.tuple #[.agg #[.int .i64 0, .int .i64 0, .int .i64 0, .int .i64 0, .int .i64 0, .int .i64 0, .int .i64 0, .int .i64 0, .int .i64 0, .int .i64 0, .int .i64 0, .int .i64 0], .bool false]) ∧ Below w.heap.size w w' := by
  obtain ⟨o1, cap1, o2, cap2, rfl, rfl⟩ := r.forms
  have hm1 : ts.length ≤ maxLen := by have := r.t.len; simpa using this
  have hm2 : rs.length ≤ maxLen := by obtain ⟨_, _, _, hm, _⟩ := r.r; exact hm
  unfold maxLen at hm1 hm2
  clear r
  by_cases h1 : ts.length = 4
  · have hn1 : ((ts.length : Int) != 4) = false := by rw [h1]; rfl
    have hn2 : ((rs.length : Int) != 4) = true := by rw [bne_iff_ne]; omega
    clear h h1
    go_enter Try.func31, Try.ntmps31
    go_wp2_with fail
    exact bodyPost_ret (v := .tuple #[.agg #[.int .i64 0, .int .i64 0, .int .i64 0, .int .i64 0, .int .i64 0, .int .i64 0, .int .i64 0, .int .i64 0, .int .i64 0, .int .i64 0, .int .i64 0, .int .i64 0], .bool false]) (by simp [results, Try.results31, go_sem]) rfl ⟨rfl, by go_grown⟩
  · have hn1 : ((ts.length : Int) != 4) = true := by rw [bne_iff_ne]; omega
    clear h h1
    go_enter Try.func31, Try.ntmps31
    go_wp2_with fail
    exact bodyPost_ret (v := .tuple #[.agg #[.int .i64 0, .int .i64 0, .int .i64 0, .int .i64 0, .int .i64 0, .int .i64 0, .int .i64 0, .int .i64 0, .int .i64 0, .int .i64 0, .int .i64 0, .int .i64 0], .bool false]) (by simp [results, Try.results31, go_sem]) rfl ⟨rfl, by go_grown⟩

theorem notNil_rep (g off n cap : Nat) (W : World) : (binOp BinOp.eql 25 (.slice (some ⟨g, off, none⟩) n cap) (.slice none 0 0)).run Try.prog W = .ok (.bool false) W := by kernel_rfl

theorem cloneReps_any (g off cap : Nat) (rs : List (Int × Int)) (w : World) (hn : rs.length ≤ 1048576) (h : ReadsR 2 repC w.heap.size w (.slice (some ⟨g, off, none⟩) rs.length cap) rs) :
    Calls Try.prog 59 #[.slice (some ⟨g, off, none⟩) rs.length cap] w fun e w' => ∃ v' : Value, e = .returned v' ∧ w'.ownsRow w.heap.size 29 2 v' rs.length (rs.flatMap repC) ∧ v' ≠ .slice none 0 0 ∧ Below w.heap.size w w' := by
  obtain ⟨j0, ji, jz0, jz1, jz2⟩ := info_parts Try.infoRep
  have own0 : (w.alloc (.cells #[] 29)).ownsRow w.heap.size 29 2 (.slice (some ⟨w.heap.size, 0, none⟩) 0 0) 0 [] := World.ownsRow_lit w #[] 0 (Nat.le_refl _) (Nat.zero_le _) rfl
  have d0 : Below w.heap.size w (w.alloc (.cells #[] 29)) := bw_alloc (Below.refl _ _)
  have HC : Hid (∀ j u, (rs.flatMap repC)[j]? = some u → ∃ g' off', some (⟨g, off, none⟩ : Addr) = some ⟨g', off', none⟩ ∧ (w.alloc (.cells #[] 29)).cell? ⟨g', off' + j, none⟩ = some u) := fun j u hj => by
    have q := flat_srcM repC_len (by decide) (h.below d0) j u hj
    rw [add_offM] at q
    exact ⟨g, off, rfl, q⟩
  have hnl : ∀ W : World, (binOp BinOp.eql 25 (.slice (some ⟨g, off, none⟩) rs.length cap) (.slice none 0 0)).run Try.prog W = .ok (.bool false) W := fun W => notNil_rep g off rs.length cap W
  clear h
  go_enter Try.func59, Try.ntmps59
  go_wp2_with (at_builtin; refine wpList_append_reads rfl _ _ 25 rfl w.heap.size 29 j0 (.agg #[.int .i64 0, .int .i64 0]) 2 16 Try.underlying25 ji jz0 jz1 jz2 rfl (by decide) _ 0 [] rfl own0 (some ⟨g, off, none⟩) rs.length cap (rs.flatMap repC) rfl ?c0 HC.out ?c2 ?c3 ?c4 ?c5 ?_)
  case c0 => exact flat_length repC_len rs
  case c2 => exact reps_one rs
  case c3 => unfold maxLen; omega
  case c4 => omega
  case c5 => simp
  intro v' w' hown hgrow hnil
  have hown2 : w'.ownsRow w.heap.size 29 2 v' rs.length (rs.flatMap repC) := by simpa using hown
  have hnn : v' ≠ .slice none 0 0 := hnil
  have hb : Below w.heap.size w w' := d0.grown hgrow (by simp) (fun q hq => (own0.lt q hq).1)
  clear hown hgrow hnil own0 d0 HC
  go_wp2_with fail
  go_ret
  exact ⟨v', rfl, hown2, hnn, hb⟩

set_option maxRecDepth 100000 in
set_option maxHeartbeats 3200000 in
theorem memo_any (a b c d a0 a1 b0 b1 c0 c1 e0 e1 : Int) (w : World) :
    Calls Try.prog 34 #[.agg #[.int .i64 a, .int .i64 b, .int .i64 c, .int .i64 d, .int .i64 a0, .int .i64 a1, .int .i64 b0, .int .i64 b1, .int .i64 c0, .int .i64 c1, .int .i64 e0, .int .i64 e1]] w fun e w' => ∃ u1 u2 : Value, e = .returned (.agg #[u1, u2]) ∧ OwnM w.heap.size w' u1 u2 [a, b, c, d] [(a0, a1), (b0, b1), (c0, c1), (e0, e1)] ∧ Below w.heap.size w w' := by
  obtain ⟨W0, hW0, k0, k1, d0, z0⟩ := box2 w #[.int .i64 a, .int .i64 b, .int .i64 c, .int .i64 d, .int .i64 a0, .int .i64 a1, .int .i64 b0, .int .i64 b1, .int .i64 c0, .int .i64 c1, .int .i64 e0, .int .i64 e1] #[.slice none 0 0, .slice none 0 0] 62 27
  have HW0 : Hid (W0 = _) := hW0
  have s0 := heap_lt k0
  have s1 := heap_lt k1
  have RT : Hid (∀ X, Below W0.heap.size W0 X → Reads X.heap.size X (.slice (some ⟨w.heap.size, 0, none⟩) 4 4) ([a, b, c, d].map (Value.int .i64))) := fun X b => by
    have k := (b.block _ s0).trans k0
    refine ⟨some ⟨w.heap.size, 0, none⟩, 4, rfl, by unfold maxLen; simp, fun j u hj => ⟨w.heap.size, 0, rfl, Nat.lt_of_lt_of_le s0 b.size, ?_⟩, by simp⟩
    rw [at_cell k]
    match j, hj with
    | 0, hj | 1, hj | 2, hj | 3, hj => simpa using hj
  have RR : Hid (∀ X, Below W0.heap.size W0 X → ReadsR 2 repC X.heap.size X (.slice (some ⟨w.heap.size, 4, none⟩) 4 4) [(a0, a1), (b0, b1), (c0, c1), (e0, e1)]) := fun X b => by
    have k := (b.block _ s0).trans k0
    refine ⟨some ⟨w.heap.size, 4, none⟩, 4, rfl, by unfold maxLen; simp, fun i x hx => ⟨w.heap.size, 4, rfl, Nat.lt_of_lt_of_le s0 b.size, fun j u hj => ?_⟩, by simp⟩
    rw [at_cell k]
    match i, hx with
    | 0, hx | 1, hx | 2, hx | 3, hx =>
      simp at hx
      subst hx
      match j, hj with
      | 0, hj | 1, hj => simpa [repC] using hj
  have HK1 : Hid _ := k1
  clear hW0 k0 z0
  go_enter Try.func34, Try.ntmps34
  go_upto_region 1 with fail
  rw [← HW0.out]
  clear HW0 k1
  go_region_law (first
    | (go_simp; go_at_call 58; refine (sameNumbers_any _ [a, b, c, d] _ (by simp) (RT.out W0.drew (bw_drew (Below.refl _ _)))).mono ?_; rintro e w5 ⟨v5, rfl, own5, hn5, b5⟩; obtain ⟨o5, c5, rfl⟩ := own_slice own5; have B5 : Below W0.heap.size W0 w5 := bw_call (bw_drew (Below.refl _ _)) b5; dsimp only)
    | (go_simp; go_at_call 59; refine (cloneReps_any w.heap.size 4 4 [(a0, a1), (b0, b1), (c0, c1), (e0, e1)] _ (by simp) (RR.out w5 B5)).mono ?_; rintro e w6 ⟨v6, rfl, own6, hn6, b6⟩; obtain ⟨o6, c6, rfl⟩ := own_slice own6; have B6 : Below W0.heap.size W0 w6 := bw_call B5 b6; have k6 := (B6.block _ s1).trans HK1.out; have q0 := at_cell k6 0; have q1 := at_cell k6 1; have f0 := at_open k6 0; have f1 := at_open k6 1; dsimp only))
  all_goals
    have ow : OwnM w.heap.size w6 (.slice o5 4 c5) (.slice o6 4 c6) [a, b, c, d] [(a0, a1), (b0, b1), (c0, c1), (e0, e1)] := ⟨owns_mono (owns_below own5 b6) d0.size, owns_mono own6 (Nat.le_trans d0.size B5.size)⟩
    have HS : Hid _ := mem_end w w6 _ _ _ _ (w.heap.size + 1) [a, b, c, d] [(a0, a1), (b0, b1), (c0, c1), (e0, e1)] (by omega) k6 ow (bw_call d0 B6)
    clear ow own5 own6 b5 b6 B5 B6 k6 q0 q1 f0 f1 RT RR HK1 hn5 hn6
    go_wp2_with fail
    exact bodyPost_ret (v := .agg #[.slice o5 4 c5, .slice o6 4 c6]) (by simp [results, Try.results34, go_sem, at_cell HS.out.1]) rfl ⟨_, _, rfl, HS.out.2⟩
end Go.Proofs.Ytpmoefagpglddaa

namespace Go.Proofs.Ytpmoefagpglddaa
open Go.RowKit

set_option linter.unusedVariables false

theorem lastTold_any (v1 v2 : Value) (ts : List Int) (rs : List (Int × Int)) (w : World) (r : RM w.heap.size w v1 v2 ts rs) :
    Calls Try.prog 31 #[.agg #[v1, v2]] w fun e w' => ∃ a b c d a0 a1 b0 b1 c0 c1 e0 e1 : Int, e = .returned (.tuple #[.agg #[.int .i64 a, .int .i64 b, .int .i64 c, .int .i64 d, .int .i64 a0, .int .i64 a1, .int .i64 b0, .int .i64 b1, .int .i64 c0, .int .i64 c1, .int .i64 e0, .int .i64 e1], .bool (memOk ts rs)]) ∧ (memOk ts rs = true → ts = [a, b, c, d] ∧ rs = [(a0, a1), (b0, b1), (c0, c1), (e0, e1)]) ∧ Below w.heap.size w w' := by
  by_cases hl : ts.length = 4 ∧ rs.length = 4
  · obtain ⟨a, b, c, d, rfl⟩ : ∃ a b c d, ts = [a, b, c, d] := by
      match ts, hl.1 with
      | [a, b, c, d], _ => exact ⟨a, b, c, d, rfl⟩
    obtain ⟨⟨a0, a1⟩, ⟨b0, b1⟩, ⟨c0, c1⟩, ⟨e0, e1⟩, rfl⟩ : ∃ p q r s, rs = [p, q, r, s] := by
      match rs, hl.2 with
      | [p, q, r, s], _ => exact ⟨p, q, r, s, rfl⟩
    exact (lastTold_yes v1 v2 a b c d a0 a1 b0 b1 c0 c1 e0 e1 w r).mono fun e w' h => ⟨a, b, c, d, a0, a1, b0, b1, c0, c1, e0, e1, h.1, fun _ => ⟨rfl, rfl⟩, h.2⟩
  · rw [memOk_no hl]
    exact (lastTold_no v1 v2 ts rs w hl r).mono fun e w' h => ⟨0, 0, 0, 0, 0, 0, 0, 0, 0, 0, 0, 0, h.1, (fun h => by cases h), h.2⟩

set_option maxRecDepth 100000 in
set_option maxHeartbeats 3200000 in
theorem implMemoOk_any (v1 v2 : Value) (ts : List Int) (rs : List (Int × Int)) (w : World) (r : RM w.heap.size w v1 v2 ts rs) :
    Calls Try.prog 17 #[.agg #[v1, v2]] w fun e w' => e = .returned (.bool (memOk ts rs)) ∧ Below w.heap.size w w' := by
  obtain ⟨o1, cap1, o2, cap2, rfl, rfl⟩ := r.forms
  obtain ⟨W0, hW0, k0, d0, z0⟩ := box1 w #[.slice o1 ts.length cap1, .slice o2 rs.length cap2] 27
  have HW0 : Hid (W0 = _) := hW0
  have r0 := (r.below d0).mono d0.size
  have p0 := at_cell k0 0
  have p1 := at_cell k0 1
  clear hW0 z0 r
  go_enter Try.func17, Try.ntmps17
  go_upto_region 1 with fail
  rw [← HW0.out]
  clear HW0
  go_wp2_with fail
  refine (lastTold_any _ _ ts rs _ r0).mono ?_
  obtain ⟨ok, hok⟩ : ∃ ok, memOk ts rs = ok := ⟨_, rfl⟩
  have HOK : Hid _ := hok
  rw [hok]
  rintro e w1 ⟨a, b, c, d, a0, a1, b0, b1, c0, c1, e0, e1, rfl, -, hb1⟩
  replace d0 := bw_call d0 hb1
  have HB : Hid (Below w.heap.size w (w1.alloc (.cells #[.int .i64 a, .int .i64 b, .int .i64 c, .int .i64 d, .int .i64 a0, .int .i64 a1, .int .i64 b0, .int .i64 b1, .int .i64 c0, .int .i64 c1, .int .i64 e0, .int .i64 e1] 62))) := bw_alloc d0
  clear hb1 r0 k0 p0 p1 d0 hok
  go_wp2_with fail
  go_ret
  exact ⟨ret_bool HOK.out.symm, HB.out⟩

set_option maxRecDepth 100000 in
set_option maxHeartbeats 3200000 in
theorem implNewMemo_any (w : World) :
    Calls Try.prog 13 #[] w fun e w' => ∃ u1 u2 : Value, e = .returned (.agg #[u1, u2]) ∧ OwnM w.heap.size w' u1 u2 [0, 0, 0, 0] [(0, 0), (0, 0), (0, 0), (0, 0)] ∧ Below w.heap.size w w' := by
  obtain ⟨W0, hW0, k0, d0, z0⟩ := box1 w #[.slice none 0 0, .slice none 0 0] 27
  have HW0 : Hid (W0 = _) := hW0
  clear hW0 z0
  go_enter Try.func13, Try.ntmps13
  go_upto_region 1 with fail
  rw [← HW0.out]
  clear HW0
  go_wp2_with fail
  refine (memo_any 0 0 0 0 0 0 0 0 0 0 0 0 _).mono ?_
  rintro e w1 ⟨u1, u2, rfl, own, b1⟩
  replace k0 := (b1.block _ (heap_lt k0)).trans k0
  obtain ⟨o1, c1, hu1⟩ := own_slice own.t
  obtain ⟨o2, c2, hu2⟩ := own_slice own.r
  have hu1' : u1 = .slice o1 4 c1 := hu1
  have hu2' : u2 = .slice o2 4 c2 := hu2
  subst hu1' hu2'
  clear hu1 hu2
  have HS : Hid _ := mem_end w w1 _ _ _ _ w.heap.size _ _ (Nat.le_refl _) k0 (own.mono d0.size) (bw_call d0 b1)
  have q0 := at_cell k0 0
  have q1 := at_cell k0 1
  have f0 := at_open k0 0
  have f1 := at_open k0 1
  clear own k0 b1 d0
  go_wp2_with fail
  exact bodyPost_ret (v := .agg #[.slice o1 4 c1, .slice o2 4 c2]) (by simp [results, Try.results13, go_sem, at_cell HS.out.1]) rfl ⟨_, _, rfl, HS.out.2⟩

set_option maxRecDepth 100000 in
set_option maxHeartbeats 3200000 in
theorem implKnown_any (v1 v2 : Value) (ts : List Int) (rs : List (Int × Int)) (client tag : Int) (w : World) (r : RM w.heap.size w v1 v2 ts rs) :
    Calls Try.prog 12 #[.agg #[v1, v2], .int .i64 client, .int .i64 tag] w fun e w' => e = .returned (.int .i64 (knownM ts rs client tag)) ∧ Below w.heap.size w w' := by
  obtain ⟨o1, cap1, o2, cap2, rfl, rfl⟩ := r.forms
  obtain ⟨W0, hW0, k0, d0, z0⟩ := box1 w #[.slice o1 ts.length cap1, .slice o2 rs.length cap2] 27
  have HW0 : Hid (W0 = _) := hW0
  have r0 := (r.below d0).mono d0.size
  have p0 := at_cell k0 0
  have p1 := at_cell k0 1
  have HV : Hid (knownM ts rs client tag = if memOk ts rs = true then knownT ts client tag else -1) := rfl
  clear hW0 z0 r
  go_enter Try.func12, Try.ntmps12
  go_upto_region 1 with fail
  rw [← HW0.out]
  clear HW0
  go_wp2_with fail
  refine (lastTold_any _ _ ts rs _ r0).mono ?_
  rintro e w1 ⟨a, b, c, d, a0, a1, b0, b1, c0, c1, e0, e1, rfl, hts, hb1⟩
  replace d0 := bw_call d0 hb1
  have HTS : Hid _ := hts
  obtain ⟨W1, hW1, k1, hb2, z1⟩ := box1 w1 #[.int .i64 a, .int .i64 b, .int .i64 c, .int .i64 d, .int .i64 a0, .int .i64 a1, .int .i64 b0, .int .i64 b1, .int .i64 c0, .int .i64 c1, .int .i64 e0, .int .i64 e1] 62
  have HW1 : Hid (W1 = _) := hW1
  replace d0 := bw_call d0 hb2
  clear hb1 r0 k0 p0 p1 hts hW1 z1 hb2
  generalize memOk ts rs = ok at *
  cases ok
  · go_upto_region 2 with fail
    rw [← HW1.out]
    clear HW1 k1
    go_wp2_with fail
    go_ret
    exact ⟨ret_int (by rw [HV.out]; rfl), d0⟩
  · go_upto_region 2 with fail
    rw [← HW1.out]
    clear HW1
    obtain ⟨hts, -⟩ := HTS.out (by simp)
    have HE : Hid (knownM ts rs client tag = knownT [a, b, c, d] client tag) := by rw [Hid, HV.out, hts]; rfl
    have HBD : Hid _ := knownT_bd [a, b, c, d] client tag
    have p0 := at_cell k1 0
    have p1 := at_cell k1 1
    have p2 := at_cell k1 2
    have p3 := at_cell k1 3
    clear HTS HV hts k1
    go_wp2_with fail
    refine (implKnownT_any a b c d client tag _).mono ?_
    rintro e w3 ⟨rfl, b3⟩
    replace d0 := bw_call d0 b3
    generalize knownT [a, b, c, d] client tag = kk at *
    clear b3 p0 p1 p2 p3
    go_wp2_with fail
    go_ret
    exact ⟨ret_int HE.out.symm, d0⟩
end Go.Proofs.Ytpmoefagpglddaa

