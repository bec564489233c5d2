/-
  Contracts and plain laws, one chapter behind the other.
-/
import Derived.Laws.Cover1
import Derived.Deep.CutBlock
import Derived.Deep.DeepCutAuto
import Derived.Test.YtcefcglonooelaaGreatDoorM06
import Derived.Test.YtcefcglonooelaaGreatDoorM07
import Derived.Test.YtcefcglonooelaaGreatDoorM08
import Derived.Test.YtcefcglonooelaaGreatDoorM09
import Derived.Test.YtcefcglonooelaaGreatDoorM11
namespace Go.Proofs.YtcefcglonooelaaGreatDoor
open Go.RowKit

set_option linter.unusedVariables false

set_option maxRecDepth 100000


theorem totK_take (bs : List Pk) (k : Nat) (hk : k < bs.length) : totK (bs.take (k + 1)) = totK (bs.take k) + bs[k].rs.length := by
  have e : ∀ (xs : List Pk) (y : Pk), totK (xs ++ [y]) = totK xs + y.rs.length := fun xs y => by
    induction xs with
    | nil => simp [totK]
    | cons a t ih => simp only [totK, List.cons_append, List.foldr_cons] at ih ⊢; omega
  rw [List.take_succ_eq_append_getElem hk, e]

set_option maxHeartbeats 800000 in
theorem szPlain2_any (nm : ByteArray) (sz : Int) (m : Value) (rs : List Int) (fx : Bool) (ep : Int) (left : Int) (w : World) (hn : nm.size ≤ maxLen) (h0 : 0 ≤ left) (hl : left ≤ 1048576) (r : ReadsR 1 intC w.heap.size w m rs) :
    Calls Tryz.prog 62 #[.agg #[.string nm, .int .i64 sz, m, .bool fx, .int .i64 ep], .int .i64 left] w fun e w' => ∃ q : Int, e = .returned (.int .i64 q) ∧ (q = -1 ∨ (0 ≤ q ∧ q ≤ left ∧ nm.size ≤ 1048576 ∧ rs.length ≤ 1048576 ∧ q + (rs.length : Int) ≤ left)) ∧ Below w.heap.size w w' := by
  obtain ⟨o, cap, rfl, hm, -⟩ := r
  obtain ⟨W0, hW0, k0, d0, z0⟩ := box1 w #[.string nm, .int .i64 sz, .slice o rs.length cap, .bool fx, .int .i64 ep] 93
  have HW0 : Hid (W0 = _) := hW0
  have p0 := at_cell k0 0
  have p2 := at_cell k0 2
  rw [hW0] at p0 p2
  clear hW0 k0
  have HM : Hid _ := hm
  unfold maxLen at hn hm
  by_cases hb : left < (nm.size : Int)
  · have h1 : left - (nm.size : Int) < 0 := by omega
    go_enter Tryz.func62, Tryz.ntmps62
    go_wp2_with fail
    go_ret
    exact ⟨-1, rfl, .inl rfl, by rw [← HW0.out]; exact d0⟩
  · have hl1 : 0 ≤ left - (nm.size : Int) := by omega
    have hl2 : left - (nm.size : Int) ≤ 1048576 := by omega
    go_enter Tryz.func62, Tryz.ntmps62
    go_wp2_with fail
    refine (szInts_any _ _ _ _ _ hl1 hl2 HM.out).mono ?_
    rintro e w' ⟨rfl, rfl⟩
    by_cases hb2 : left - (nm.size : Int) < (rs.length : Int)
    · rw [if_pos hb2]
      go_wp2_with fail
      go_ret
      exact ⟨-1, rfl, .inl rfl, by rw [← HW0.out]; exact d0⟩
    · rw [if_neg hb2]
      have hl3 : 0 ≤ left - (nm.size : Int) - (rs.length : Int) := by omega
      go_wp2_with fail
      go_ret
      exact ⟨_, rfl, .inr ⟨hl3, by omega, by omega, by omega, by omega⟩, by rw [← HW0.out]; exact d0⟩

set_option maxHeartbeats 1600000 in
theorem szPlains2_any (v : Value) (bs : List Pk) (left : Int) (w : World) (h0 : 0 ≤ left) (hl : left ≤ 1048576) (hn : ∀ b ∈ bs, b.nm.size ≤ maxLen) (r : ReadsK w.heap.size w v bs) :
    Calls Tryz.prog 24 #[v, .int .i64 left] w fun e w' => ∃ q : Int, e = .returned (.int .i64 q) ∧ (q = -1 ∨ (0 ≤ q ∧ q ≤ left ∧ bs.length ≤ 1048576 ∧ (∀ b ∈ bs, b.nm.size ≤ 1048576 ∧ b.rs.length ≤ 1048576) ∧ (totK bs : Int) ≤ left - q)) ∧ Below w.heap.size w w' := by
  have RM : Hid _ := r.maps
  have RN : Hid _ := hn
  obtain ⟨o, cap, rfl, hm, hc, -⟩ := r.row
  have HC : Hid _ := five_cellsK hc
  unfold maxLen at hm
  clear hc r hn
  by_cases hbig : left < (bs.length : Int)
  · have h1 : left - (bs.length : Int) < 0 := by omega
    go_enter Tryz.func24, Tryz.ntmps24
    go_wp2_with fail
    go_ret
    exact ⟨-1, rfl, .inl rfl, Below.refl _ _⟩
  · have h1 : 0 ≤ left - (bs.length : Int) := by omega
    go_enter Tryz.func24, Tryz.ntmps24
    go_wp2_with fail
    go_loopw [1, 5] (fun q i wr => ∃ (k : Nat) (l : Int), k ≤ bs.length ∧ i = .int .i64 k ∧ q = .int .i64 l ∧ (0 ≤ l ∧ l ≤ left ∧ l + (totK (bs.take k) : Int) ≤ left) ∧ (∀ j (hj : j < bs.length), j < k → bs[j].nm.size ≤ 1048576 ∧ bs[j].rs.length ≤ 1048576) ∧ Below w.heap.size w wr) (fun _ i _ => bs.length - (intOf i).toNat)
    case atStart => exact ⟨0, left - (bs.length : Int), Nat.zero_le _, rfl, rfl, ⟨by omega, by omega, by rw [show totK (bs.take 0) = 0 from rfl]; omega⟩, fun j _ hj => by omega, Below.refl _ _⟩
    case round =>
      obtain ⟨k, l, hk, rfl, rfl, hlq, hall, hb⟩ := hrel
      have HA : Hid _ := hall
      clear hall
      by_cases hlt : k < bs.length
      · obtain ⟨g, off, rfl, hg, a0, a1, a2, a3, a4⟩ := HC.out k hlt
        have rm := ((RM.out bs[k] (List.getElem_mem hlt)).below hb).mono hb.size
        have rn := RN.out bs[k] (List.getElem_mem hlt)
        have HTT : Hid _ := totK_take bs k hlt
        obtain ⟨x, hx⟩ : ∃ x, bs[k] = x := ⟨_, rfl⟩
        have HX : Hid (bs[k] = x) := hx
        rw [hx] at a0 a1 a2 a3 a4 rm rn HTT
        clear hx HC RM RN
        obtain ⟨nm, sz, m, rs, fx, ep⟩ := x
        simp only at a0 a1 a2 a3 a4 rm rn
        obtain ⟨o', cap', rfl⟩ := rm.form
        replace a0 := (hb.cell (p := ⟨g, off + k * 5, none⟩) hg).trans a0
        replace a1 := (hb.cell (p := ⟨g, off + k * 5 + 1, none⟩) hg).trans a1
        replace a2 := (hb.cell (p := ⟨g, off + k * 5 + 2, none⟩) hg).trans a2
        replace a3 := (hb.cell (p := ⟨g, off + k * 5 + 3, none⟩) hg).trans a3
        replace a4 := (hb.cell (p := ⟨g, off + k * 5 + 4, none⟩) hg).trans a4
        go_wp2_with fail
        refine (szPlain2_any nm sz _ rs fx ep l _ rn hlq.1 (by omega) rm).mono ?_
        rintro e w1 ⟨q, rfl, hq, b1⟩
        replace hb := bw_call hb b1
        clear a0 a1 a2 a3 a4 b1 rm rn
        rcases hq with rfl | ⟨hq0, hq1, hq2, hq3, hq4⟩
        · go_wp2_with fail
          go_ret
          exact ⟨-1, rfl, .inl rfl, hb⟩
        · have HN : Hid (∀ j (hj : j < bs.length), j < k + 1 → bs[j].nm.size ≤ 1048576 ∧ bs[j].rs.length ≤ 1048576) := fun j hj hjk => by
            rcases Nat.lt_or_ge j k with y | y
            · exact HA.out j hj y
            · obtain rfl : j = k := by omega
              rw [HX.out]
              exact ⟨hq2, hq3⟩
          have HSS : Hid (q + (totK (bs.take (k + 1)) : Int) ≤ left) := by have h := HTT.out; rw [Hid, h]; omega
          clear HA HX hq2 hq3 hq4 HTT
          go_wp2_with fail
          go_roundw
          case rel => exact ⟨k + 1, q, by omega, by go_num, rfl, ⟨by omega, by omega, HSS.out⟩, HN.out, hb⟩
          case measure => simp [intOf]; omega
      · have HB : Hid (∀ b ∈ bs, b.nm.size ≤ 1048576 ∧ b.rs.length ≤ 1048576) := fun b hbm => by
          obtain ⟨j, hj, rfl⟩ := List.getElem_of_mem hbm
          exact HA.out j hj (by omega)
        have htk : bs.take k = bs := List.take_of_length_le (by omega)
        rw [htk] at hlq
        have HLQ : Hid _ := hlq
        have hl1 := hlq.1
        have hl2 := hlq.2.1
        clear HA HC RM RN hlq htk
        go_wp2_with fail
        go_ret
        exact ⟨l, rfl, .inr ⟨HLQ.out.1, HLQ.out.2.1, by omega, HB.out, by have := HLQ.out.2.2; omega⟩, hb⟩

/-- All blocks of a row of one's own lie below hi. -/
def SpanK (hi : Nat) (vb : Value) (bks : List Pk) : Prop := (∀ g, vb.ownBlock = some g → g < hi) ∧ ∀ b ∈ bks, ∀ g, b.m.ownBlock = some g → g < hi

theorem OwnK.span {base : Nat} {w : World} {vb : Value} {bks : List Pk} (h : OwnK base w vb bks) : SpanK w.heap.size vb bks := ⟨fun g hg => (h.row.lt g hg).2, fun b hb g hg => ((h.maps b hb).lt g hg).2⟩

theorem marked_rng {lo hi : Nat} {w w' : World} {vb : Value} {bks : List Pk} (own : OwnK lo w vb bks) (sp : SpanK hi vb bks) (h : w'.os = w.os ∧ w'.tape = w.tape ∧ w'.output = w.output ∧ w.heap.size ≤ w'.heap.size ∧ ∀ i, i < w.heap.size → vb.ownBlock ≠ some i → (∀ b ∈ bks, b.m.ownBlock ≠ some i) → w'.heap[i]? = w.heap[i]?) : Rng lo hi w w' :=
  ⟨h.1, h.2.1, h.2.2.1, h.2.2.2.1, fun i hi' hout => h.2.2.2.2 i hi' (fun e => by have h1 := (own.row.lt i e).1; have h2 := sp.1 i e; omega) (fun b hb e => by have h1 := ((own.maps b hb).lt i e).1; have h2 := sp.2 b hb i e; omega)⟩

theorem tot_bare : ∀ {bs ms : List Pk}, ms.map bareK = bs.map bareK → totK ms = totK bs
  | [], [], _ => rfl
  | [], _ :: _, h => by simp at h
  | _ :: _, [], h => by simp at h
  | b :: bs, m :: ms, h => by
    simp only [List.map_cons, List.cons.injEq] at h
    have h1 := tot_bare h.2
    have h2 : m.rs = b.rs := by
      have := h.1
      simp only [bareK, Prod.mk.injEq] at this
      exact this.2.2.1
    show m.rs.length + totK ms = b.rs.length + totK bs
    rw [h1, h2]

/-- How great a row is that was answered. -/
theorem did_bounds {l : List Pv} {o : Oq} {told : Int} {ms : List Pk} (h : ms.map Pk.pv = (didPlain l o told).1) : (∀ b ∈ ms, b.rs.length ≤ 1048576) ∧ marksEK 1 ms ≤ 1073741824 := by
  have hok := did_plains l o told
  rw [← h] at hok
  have hl := (plains_ok hok).1
  rw [List.length_map] at hl
  have hb : ∀ b ∈ ms, b.rs.length ≤ 16 := fun b hb => by
    have h0 := pv_parts ((plains_ok hok).2 b.pv (List.mem_map_of_mem hb))
    have h1 : (b.rs.length : Int) = b.sz := h0.2.2
    have h2 : 1 ≤ b.sz ∧ b.sz ≤ 16 := h0.1
    omega
  have ht := tot_few 16 ms hb
  refine ⟨fun b hbm => by have := hb b hbm; omega, ?_⟩
  rw [marksEK_tot]
  omega
end Go.Proofs.YtcefcglonooelaaGreatDoor

namespace Go.Proofs.YtcefcglonooelaaGreatDoor
open Go.RowKit

set_option linter.unusedVariables false

set_option maxRecDepth 100000


set_option maxHeartbeats 3200000 in
theorem l9Copy_any (v : Value) (bks : List Pk) (w : World) (hn : bks.length ≤ 1048576) (hr : ∀ b ∈ bks, b.rs.length ≤ 1048576) (r : ReadsK w.heap.size w v bks) :
    Calls Tryz.prog 42 #[v] w fun e w' => ∃ (v' : Value) (ms : List Pk), e = .returned v' ∧ ms.map Pk.pv = bks.map Pk.pv ∧ OwnK w.heap.size w' v' ms ∧ ApartK ms ∧ v' ≠ .slice none 0 0 ∧ Below w.heap.size w w' := by
  obtain ⟨i0, hi, hz0, hz1, hz2⟩ := info_parts Tryz.infoPlain
  have RM : Hid _ := r.maps
  have RL : Hid _ := hr
  obtain ⟨o, cap, rfl, hm, hc, -⟩ := r.row
  have HC : Hid _ := five_cellsK hc
  have own0 := own_noplains w
  have bd0 : Below w.heap.size w (w.alloc (.cells #[] 51)) := bw_alloc (Below.refl _ _)
  clear hc hm r hr
  go_enter Tryz.func42, Tryz.ntmps42
  go_wp2_with fail
  generalize w.alloc (.cells #[] 51) = W0 at own0 bd0 ⊢
  go_loopw [3, 4] (fun q i wr => ∃ (j g cp : Nat) (ms : List Pk), j ≤ bks.length ∧ i = .int .i64 j ∧ q = .slice (some ⟨g, 0, none⟩) ms.length cp ∧ ms.map Pk.pv = (bks.take j).map Pk.pv ∧ OwnK w.heap.size wr (.slice (some ⟨g, 0, none⟩) ms.length cp) ms ∧ ApartK ms ∧ Below w.heap.size w wr) (fun _ i _ => bks.length - (intOf i).toNat)
  case atStart => exact ⟨0, _, _, [], Nat.zero_le _, rfl, rfl, rfl, ⟨own0, fun b hb => by simp at hb⟩, List.Pairwise.nil, bd0⟩
  case round =>
    clear own0 bd0
    obtain ⟨j, g, cp, ms, hj, rfl, rfl, hpl, own, hap, hb⟩ := hrel
    have HAP : Hid _ := hap
    clear hap
    have HML : Hid (ms.length = j) := by have := congrArg List.length hpl; simp at this; rw [Hid]; omega
    by_cases hlt : j < bks.length
    · obtain ⟨g0, off, rfl, hg, a0, a1, a2, a3, a4⟩ := HC.out j hlt
      have rm := ((RM.out bks[j] (List.getElem_mem hlt)).below hb).mono hb.size
      have rl := RL.out bks[j] (List.getElem_mem hlt)
      have hpt : (bks.take (j + 1)).map Pk.pv = (bks.take j).map Pk.pv ++ [bks[j].pv] := by rw [List.take_succ_eq_append_getElem hlt, List.map_append]; rfl
      obtain ⟨x, hx⟩ : ∃ x, bks[j] = x := ⟨_, rfl⟩
      rw [hx] at a0 a1 a2 a3 a4 rm rl hpt
      clear hx HC RM RL
      obtain ⟨nm, sz, m, rs, fx, ep⟩ := x
      simp only at a0 a1 a2 a3 a4 rm rl
      obtain ⟨o', cap', hmm⟩ := rm.form
      subst hmm
      replace a0 := (hb.cell (p := ⟨g0, off + j * 5, none⟩) hg).trans a0
      replace a1 := (hb.cell (p := ⟨g0, off + j * 5 + 1, none⟩) hg).trans a1
      replace a2 := (hb.cell (p := ⟨g0, off + j * 5 + 2, none⟩) hg).trans a2
      replace a3 := (hb.cell (p := ⟨g0, off + j * 5 + 3, none⟩) hg).trans a3
      replace a4 := (hb.cell (p := ⟨g0, off + j * 5 + 4, none⟩) hg).trans a4
      have HP : Hid _ := And.intro hpl hpt
      obtain ⟨W1, hW1, k1, d1, z1⟩ := box1 wr #[.string nm, .int .i64 sz, .slice o' rs.length cap', .bool fx, .int .i64 ep] 51
      have RV : Hid (Reads W1.heap.size W1 (.slice o' rs.length cap') (rs.map (Value.int .i64))) := readsK_to ((rm.below d1).mono d1.size)
      have s2 := at_cell k1 2
      have K1 : Hid _ := And.intro k1 (And.intro d1 (And.intro z1 (And.intro own hb)))
      have i0' : (0 : Int) ≤ (j : Int) := by omega
      have i1' : (j : Int) < (bks.length : Int) := by omega
      have HW1 : Hid (W1 = _) := hW1
      clear hpl hpt rm k1 d1 z1 own hb hW1
      have HW1b := HW1.out
      subst HW1b
      clear HW1
      go_wp2_with fail
      refine (l1Copy_any _ rs _ rl RV.out).mono ?_
      rintro e w3 ⟨v', rfl, hown3, hnil3, b3⟩
      obtain ⟨k1, d1, z1, own, hb⟩ := K1.out
      obtain ⟨o3, cp3, hv3⟩ := own_slice hown3
      have d3 : Below wr.heap.size wr w3 := bw_call d1 b3
      have k3 := (b3.block _ (heap_lt k1)).trans k1
      have k4 := set_at k3 2 v'
      have own4 := owns_mono (own_box hown3 k3 (by decide) 2 v') (Nat.le_trans hb.size d1.size)
      have d4 : Below wr.heap.size wr (w3.setCell ⟨wr.heap.size, 2, none⟩ v') := bw_set d3 (p := ⟨wr.heap.size, 2, none⟩) (Nat.le_refl _) v'
      have q0 := at_cell k3 0
      have q1 := at_cell k3 1
      have q2 := at_cell k3 2
      have q3 := at_cell k3 3
      have q4 := at_cell k3 4
      have f2 := at_open k3 2
      have ownB := own.below d4
      have hb4 := bw_call hb d4
      have HNEW : Hid (∀ b ∈ ms, ∀ q, b.m.ownBlock = some q → v'.ownBlock ≠ some q) := fun b hbm q hq hq2 => by
        have h1 := ((own.maps b hbm).lt q hq).2
        have h2 := (hown3.lt q hq2).1
        omega
      have HX : Hid _ := And.intro own4 (And.intro ownB hb4)
      subst hv3
      clear hown3 hnil3 b3 k1 d1 z1 own hb d3 k3 k4 own4 d4 ownB hb4 K1 a0 a1 a2 a3 a4 RV s2
      have hown4 : (w3.setCell ⟨wr.heap.size, 2, none⟩ (.slice o3 rs.length cp3)).ownsRow w.heap.size 51 5 (.slice (some ⟨g, 0, none⟩) ms.length cp) ms.length (ms.flatMap pkC) := HX.out.2.1.row
      have HN6 : Hid (ms.length + 1 ≤ 1048576) := by have := HML.out; rw [Hid]; omega
      go_wp2_with (at_builtin; refine wpList_append_own _ rfl _ _ 24 rfl w.heap.size 51 i0 (.agg #[.string ByteArray.empty, .int .i64 0, .slice none 0 0, .bool false, .int .i64 0]) 5 64 Tryz.underlying24 hi hz0 hz1 hz2 rfl (by decide) _ _ _ rfl (hown4.alloc _) ⟨w3.heap.size, 0, none⟩ 1 1 (pkC ⟨nm, sz, .slice o3 rs.length cp3, rs, fx, ep⟩) rfl rfl ?c1 ?c2 ?c3 ?c4 ?c5 ?_)
      case c1 =>
        have h := new_five (w3.setCell ⟨wr.heap.size, 2, none⟩ (.slice o3 rs.length cp3)) ⟨nm, sz, .slice o3 rs.length cp3, [], fx, ep⟩ 51
        rw [show (w3.setCell ⟨wr.heap.size, 2, none⟩ (.slice o3 rs.length cp3)).heap.size = w3.heap.size by simp] at h
        exact h
      case c2 => exact one_plain _ ⟨_, _, _, rfl⟩
      case c3 => have := HN6.out; unfold maxLen; omega
      case c4 => have := HN6.out; omega
      case c5 => have := HX.out.2.2.size; simp at this ⊢; omega
      intro v'' w5 hown' hgrow' hnil'
      have own5 : w5.ownsRow w.heap.size 51 5 v'' (ms ++ [(⟨nm, sz, .slice o3 rs.length cp3, rs, fx, ep⟩ : Pk)]).length ((ms ++ [(⟨nm, sz, .slice o3 rs.length cp3, rs, fx, ep⟩ : Pk)]).flatMap pkC) := by simpa using hown'
      obtain ⟨g', cp', hv'⟩ : ∃ g' cp', v'' = .slice (some ⟨g', 0, none⟩) (ms ++ [(⟨nm, sz, .slice o3 rs.length cp3, rs, fx, ep⟩ : Pk)]).length cp' := by
        rcases own5.2 with ⟨e, _⟩ | ⟨g', cp', _, e, _⟩
        · exact absurd e hnil'
        · exact ⟨g', cp', e⟩
      have hgl := (hown4.lt g rfl).1
      have row5 := hown4.alloc (.cells #[.string nm, .int .i64 sz, .slice o3 rs.length cp3, .bool fx, .int .i64 ep] 51)
      have mp5 : ∀ b ∈ ms ++ [(⟨nm, sz, .slice o3 rs.length cp3, rs, fx, ep⟩ : Pk)], w5.ownsRow w.heap.size 2 1 b.m b.rs.length (b.rs.flatMap intC) := fun b hbm => by
        rcases List.mem_append.1 hbm with y | y
        · exact own_grown ((HX.out.2.1.maps b y).alloc _) row5 (by decide) hgrow'
        · simp only [List.mem_singleton] at y
          subst y
          have h4 : (w3.setCell ⟨wr.heap.size, 2, none⟩ (.slice o3 rs.length cp3)).ownsRow w.heap.size 2 1 (.slice o3 rs.length cp3) rs.length (rs.flatMap intC) := by
            rw [flat_intC]
            exact HX.out.1
          exact own_grown (h4.alloc _) row5 (by decide) hgrow'
      have hb5 : Below w.heap.size w w5 := (bw_alloc HX.out.2.2).grown hgrow' (by have := HX.out.2.2.size; simp at this ⊢; omega) (fun q hq => by cases hq; exact hgl)
      have hpl5 : (ms ++ [(⟨nm, sz, .slice o3 rs.length cp3, rs, fx, ep⟩ : Pk)]).map Pk.pv = (bks.take (j + 1)).map Pk.pv := by rw [HP.out.2, ← HP.out.1, List.map_append]; rfl
      subst hv'
      have HO : Hid _ := And.intro hpl5 (And.intro (OwnK.mk own5 mp5) (And.intro (ApartK.snoc HAP.out ⟨nm, sz, .slice o3 rs.length cp3, rs, fx, ep⟩ HNEW.out) hb5))
      clear hown' hgrow' hnil' own5 mp5 hb5 hpl5 row5 hown4 HX HP q0 q1 q2 q3 q4 f2
      go_wp2_with fail
      go_roundw
      case rel => exact ⟨j + 1, g', cp', _, by omega, by go_num, rfl, HO.out⟩
      case measure => simp [intOf]; omega
    · have htk : bks.take j = bks := List.take_of_length_le (by omega)
      rw [htk] at hpl
      have HO : Hid _ := And.intro hpl (And.intro own (And.intro HAP.out hb))
      clear hpl own hb HC RM RL HAP
      go_wp2_with fail
      go_ret
      exact ⟨_, ms, rfl, HO.out.1, HO.out.2.1, HO.out.2.2.1, by simp, HO.out.2.2.2⟩
end Go.Proofs.YtcefcglonooelaaGreatDoor

namespace Go.Proofs.YtcefcglonooelaaGreatDoor
open Go.RowKit

set_option linter.unusedVariables false

set_option maxRecDepth 100000


set_option maxHeartbeats 3200000 in
theorem l9Books_any (v : Value) (bks : List Pk) (w : World) (hn : bks.length ≤ 1048576) (r : ReadsK w.heap.size w v bks) :
    Calls Tryz.prog 35 #[v] w fun e w' => ∃ (v' : Value) (ms : List Bk), e = .returned v' ∧ ms.map Bk.pb = (bks.map Pk.pv).map Pv.pb ∧ OwnB w.heap.size w' v' ms ∧ v' ≠ .slice none 0 0 ∧ Below w.heap.size w w' := by
  obtain ⟨i0, hi, hz0, hz1, hz2⟩ := info_parts Tryz.infoBook
  obtain ⟨o, cap, rfl, hm, hc, -⟩ := r.row
  have HC : Hid _ := five_cellsK hc
  have own0 := own_nobooks w
  have bd0 : Below w.heap.size w (w.alloc (.cells #[] 87)) := bw_alloc (Below.refl _ _)
  clear hc hm r
  go_enter Tryz.func35, Tryz.ntmps35
  go_wp2_with fail
  generalize w.alloc (.cells #[] 87) = W0 at own0 bd0 ⊢
  go_loopw [3, 4] (fun q i wr => ∃ (j g cp : Nat) (ms : List Bk), j ≤ bks.length ∧ i = .int .i64 j ∧ q = .slice (some ⟨g, 0, none⟩) ms.length cp ∧ ms.map Bk.pb = ((bks.take j).map Pk.pv).map Pv.pb ∧ OwnB w.heap.size wr (.slice (some ⟨g, 0, none⟩) ms.length cp) ms ∧ Below w.heap.size w wr) (fun _ i _ => bks.length - (intOf i).toNat)
  case atStart => exact ⟨0, _, _, [], Nat.zero_le _, rfl, rfl, rfl, ⟨own0, fun b hb => by simp at hb⟩, bd0⟩
  case round =>
    clear own0 bd0
    obtain ⟨j, g, cp, ms, hj, rfl, rfl, hpl, own, hb⟩ := hrel
    have HML : Hid (ms.length = j) := by have := congrArg List.length hpl; simp at this; rw [Hid]; omega
    by_cases hlt : j < bks.length
    · obtain ⟨g0, off, rfl, hg, a0, a1, -, a3, a4⟩ := HC.out j hlt
      have hpt : ((bks.take (j + 1)).map Pk.pv).map Pv.pb = ((bks.take j).map Pk.pv).map Pv.pb ++ [bks[j].pv.pb] := by rw [List.take_succ_eq_append_getElem hlt, List.map_append, List.map_append]; rfl
      obtain ⟨x, hx⟩ : ∃ x, bks[j] = x := ⟨_, rfl⟩
      rw [hx] at a0 a1 a3 a4 hpt
      clear hx HC
      obtain ⟨nm, sz, m, rs, fx, ep⟩ := x
      simp only at a0 a1 a3 a4
      have HKeep : ∀ W', Below w.heap.size w W' → (W'.cell? ⟨g0, off + j * 5, none⟩ = some (.string nm) ∧ W'.cell? ⟨g0, off + j * 5 + 1, none⟩ = some (.int .i64 sz) ∧ W'.cell? ⟨g0, off + j * 5 + 3, none⟩ = some (.bool fx) ∧ W'.cell? ⟨g0, off + j * 5 + 4, none⟩ = some (.int .i64 ep)) := fun W' hw =>
        ⟨(hw.cell (p := ⟨g0, off + j * 5, none⟩) hg).trans a0, (hw.cell (p := ⟨g0, off + j * 5 + 1, none⟩) hg).trans a1, (hw.cell (p := ⟨g0, off + j * 5 + 3, none⟩) hg).trans a3, (hw.cell (p := ⟨g0, off + j * 5 + 4, none⟩) hg).trans a4⟩
      clear a0 a1 a3 a4
      have HP : Hid _ := And.intro hpl hpt
      have i0' : (0 : Int) ≤ (j : Int) := by omega
      have i1' : (j : Int) < (bks.length : Int) := by omega
      have HX : Hid _ := And.intro own hb
      have HN6 : Hid (ms.length + 1 ≤ 1048576) := by have := HML.out; rw [Hid]; omega
      clear hpl hpt own hb
      have HMX : Hid (ms.length + 1 ≤ maxLen) := by have := HN6.out; rw [Hid]; unfold maxLen; omega
      have HBY : Hid ((ms.length + 1) * 64 ≤ 140737488355328) := by have := HN6.out; rw [Hid]; omega
      have hsw : w.heap.size ≤ wr.heap.size := HX.out.2.size
      go_wp2_with fail
      go_region_held3 (fun w' => w'.cell? ⟨g0, off + j * 5, none⟩ = some (.string nm) ∧ w'.cell? ⟨g0, off + j * 5 + 1, none⟩ = some (.int .i64 sz) ∧ w'.cell? ⟨g0, off + j * 5 + 3, none⟩ = some (.bool fx) ∧ w'.cell? ⟨g0, off + j * 5 + 4, none⟩ = some (.int .i64 ep))
        ((refine HKeep _ ?_; repeat (first | exact HX.out.2 | exact hb5 | refine bw_drew ?_ | refine bw_alloc ?_)))
        ((refine step_append rfl (.tmp 12) (.tmp 34) 40 rfl w.heap.size 87 i0 (.agg #[.string ByteArray.empty, .int .i64 0, .slice none 0 0, .bool false, .int .i64 0]) 5 64 Tryz.underlying40 hi hz0 hz1 hz2 rfl (by decide) (.slice (some ⟨g, 0, none⟩) ms.length cp) ms.length (ms.flatMap bookC) (by simp [Act.eval]) (World.ownsRow.alloc (w := wr.drew) HX.out.1.row _) ⟨wr.heap.size, 0, none⟩ 1 1 (bookC ⟨nm, sz, .slice none 0 0, [], fx, ep⟩) (by simp [Act.eval]) rfl (new_five wr.drew ⟨nm, sz, .slice none 0 0, [], fx, ep⟩ _) (one_book _ ⟨_, _, _, rfl⟩) HMX.out HBY.out (by simp; omega) ?_; intro v'' w5 hown' hgrow' hnil'; have hb5 : Below w.heap.size w w5 := Below.grown (bw_alloc (bw_drew HX.out.2)) hgrow' (by simp; omega) (fun q hq => by cases hq; exact (HX.out.1.row.lt g rfl).1)))
      have own5 : w5.ownsRow w.heap.size 87 5 v'' (ms ++ [(⟨nm, sz, .slice none 0 0, [], fx, ep⟩ : Bk)]).length ((ms ++ [(⟨nm, sz, .slice none 0 0, [], fx, ep⟩ : Bk)]).flatMap bookC) := by simpa using hown'
      obtain ⟨g', cp', hv'⟩ : ∃ g' cp', v'' = .slice (some ⟨g', 0, none⟩) (ms ++ [(⟨nm, sz, .slice none 0 0, [], fx, ep⟩ : Bk)]).length cp' := by
        rcases own5.2 with ⟨e, _⟩ | ⟨g', cp', _, e, _⟩
        · exact absurd (hnil'.1 e).2 (by decide)
        · exact ⟨g', cp', e⟩
      have row5 := World.ownsRow.alloc (w := wr.drew) HX.out.1.row (.cells #[.string nm, .int .i64 sz, .slice none 0 0, .bool fx, .int .i64 ep] 87)
      have mp5 : ∀ b ∈ ms ++ [(⟨nm, sz, .slice none 0 0, [], fx, ep⟩ : Bk)], w5.ownsRow w.heap.size 129 3 b.m b.rs.length (b.rs.flatMap runC) := fun b hbm => by
        rcases List.mem_append.1 hbm with y | y
        · exact own_grown (World.ownsRow.alloc (w := wr.drew) (HX.out.1.maps b y) _) row5 (by decide) hgrow'
        · simp only [List.mem_singleton] at y
          subst y
          exact World.ownsRow_nil _ _ _ _
      have hpl5 : (ms ++ [(⟨nm, sz, .slice none 0 0, [], fx, ep⟩ : Bk)]).map Bk.pb = ((bks.take (j + 1)).map Pk.pv).map Pv.pb := by rw [HP.out.2, ← HP.out.1, List.map_append]; rfl
      subst hv'
      have HO : Hid _ := And.intro hpl5 (And.intro (OwnB.mk own5 mp5) hb5)
      clear hown' hgrow' hnil' own5 mp5 hb5 hpl5 row5 HX HP HKeep
      go_wp2_with fail
      go_roundw
      case rel => exact ⟨j + 1, g', cp', _, by omega, by go_num, rfl, HO.out⟩
      case measure => simp [intOf]; omega
    · have htk : bks.take j = bks := List.take_of_length_le (by omega)
      rw [htk] at hpl
      have HO : Hid _ := And.intro hpl (And.intro own hb)
      clear hpl own hb HC
      go_wp2_with fail
      go_ret
      exact ⟨_, ms, rfl, by first | exact HO.out.1 | (rw [← List.map_map]; exact HO.out.1), HO.out.2.1, by simp, HO.out.2.2⟩
end Go.Proofs.YtcefcglonooelaaGreatDoor

namespace Go.Proofs.YtcefcglonooelaaGreatDoor
open Go.RowKit

set_option linter.unusedVariables false

set_option maxRecDepth 100000


/-- Appending what is read, in a region that draws. -/
theorem step_append_reads {P : Program} {w : World} {ops : Array Oper} {o : Oper} {a : Act} {K : Act → World → Prop} {Q : Exit → Act → World → Prop} {E : Prop} (hgd : o.guard = none) (s x : Operand) (t : TypeId)
    (ho : o.op = .call { callee := .builtin .append, args := #[s, x], argTypes := #[t, t] })
    (base : Nat) (e : TypeId) (i : TypeInfo) (z : Value) (size bytes : Nat) (ht : P.underlying t = some (.slice e)) (hi : P.info? e = some i) (hz : i.zero = some z)
    (hsize : i.size = size) (hby : i.bytes = bytes) (hzs : z.cells.size = size) (hsz : 0 < size)
    (v : Value) (n : Nat) (xs : List Value) (hs : a.eval s = v) (hown : w.ownsRow base e size v n xs)
    (ad : Option Addr) (m c : Nat) (news : List Value) (hx : a.eval x = .slice ad m c) (hl : news.length = m * size) (hnews : ∀ j u, news[j]? = some u → ∃ g off, ad = some ⟨g, off, none⟩ ∧ w.cell? ⟨g, off + j, none⟩ = some u) (h1 : ∀ u ∈ news, u.oneCell' = true)
    (h63 : n + m ≤ maxLen) (hbytes : (n + m) * bytes ≤ 140737488355328) (hbase : base ≤ w.heap.size)
    (h : ∀ v' w', w'.ownsRow base e size v' (n + m) (xs ++ news) → w.grownBy w' v.ownBlock → (v' = .slice none 0 0 ↔ v = .slice none 0 0 ∧ m = 0) → K (a.put o.dst v') w') :
    if Region.wanted o (yielded ops a.tmps) = true then Oper.wp P o a w K Q else E := by
  have hw : Region.wanted o (yielded ops a.tmps) = true := by simp [Region.wanted, hgd]
  rw [if_pos hw]
  exact wp_append_reads s x t ho base e i z size bytes ht hi hz hsize hby hzs hsz v n xs hs hown ad m c news hx hl hnews h1 h63 hbytes hbase h

theorem new_box (w : World) (a : Array Value) (T : TypeId) : (w.alloc (.cells a T)).heap[w.heap.size]? = some (.cells a T (0, 0)) := by
  obtain ⟨W, hW, h, -⟩ := box1 w a T
  rw [hW] at h
  exact h

theorem five_src {X : World} {n : Nat} {x0 x1 x2 x3 x4 : Value} {U : TypeId} (h : X.heap[n]? = some (.cells #[x0, x1, x2, x3, x4] U (0, 0))) : ∀ j u, ([x0, x1, x2, x3, x4] : List Value)[j]? = some u → ∃ g off, some (⟨n, 0, none⟩ : Addr) = some ⟨g, off, none⟩ ∧ X.cell? ⟨g, off + j, none⟩ = some u := fun j u hj => by
  refine ⟨n, 0, rfl, ?_⟩
  rw [Nat.zero_add]
  exact (at_cell h j).trans ((show (#[x0, x1, x2, x3, x4] : Array Value)[j]? = ([x0, x1, x2, x3, x4] : List Value)[j]? by simp).trans hj)
end Go.Proofs.YtcefcglonooelaaGreatDoor

