/-
  Contracts and plain laws, one chapter behind the other.
-/
import Derived.Test.YtchlkdhnjejgnaaM01
import Derived.Test.YtchlkdhnjejgnaaM02
import Derived.Test.YtchlkdhnjejgnaaM05
import Derived.Test.YtchlkdhnjejgnaaM08
import Derived.Test.YtchlkdhnjejgnaaM09
namespace Go.Proofs.Ytchlkdhnjejgnaa
set_option linter.unusedVariables false

set_option maxRecDepth 100000


/-- Behind a clone that was done both books are there, under two names. -/
theorem clone_two {s : Sf} (hs : shelfOk s = true) (i : Nat) (hi : i < s.bs.length) (ot : ByteArray) (hc : (didOp s ⟨5, (s.bs[i]'hi).nm, ot, 0, 0, 0⟩).2.1 = 0) :
    (s.bs[i]'hi).nm ≠ ot ∧ (∃ (a : Nat) (ha : a < (didOp s ⟨5, (s.bs[i]'hi).nm, ot, 0, 0, 0⟩).1.bs.length), ((didOp s ⟨5, (s.bs[i]'hi).nm, ot, 0, 0, 0⟩).1.bs[a]'ha).nm = (s.bs[i]'hi).nm) ∧
    ∃ (b : Nat) (hb : b < (didOp s ⟨5, (s.bs[i]'hi).nm, ot, 0, 0, 0⟩).1.bs.length), ((didOp s ⟨5, (s.bs[i]'hi).nm, ot, 0, 0, 0⟩).1.bs[b]'hb).nm = ot := by
  have hz := did_zero hs hc
  obtain ⟨-, a, b, -, -, h0a, h0b, -⟩ := copy_did hs hc (.inr rfl)
  refine ⟨fun e => ?_, ?_, ?_⟩
  · have h3 := (refused_parts hz.2.1).2.2.1 rfl
    exact find_not s.bs _ h3.1 _ (List.getElem_mem hi) e
  · obtain ⟨k, hk, -, hn⟩ := find_in _ _ (show ¬ findP (didOp s ⟨5, (s.bs[i]'hi).nm, ot, 0, 0, 0⟩).1.bs (s.bs[i]'hi).nm < 0 from fun q => by have := h0a; simp only at this; omega)
    exact ⟨k, hk, hn⟩
  · obtain ⟨k, hk, -, hn⟩ := find_in _ _ (show ¬ findP (didOp s ⟨5, (s.bs[i]'hi).nm, ot, 0, 0, 0⟩).1.bs ot < 0 from fun q => by have := h0b; simp only at this; omega)
    exact ⟨k, hk, hn⟩

/-- Names tell books of a right shelf apart. -/
theorem name_one {s : Sf} (h : ShInv s) (b b' : Pb) (hb : b ∈ s.bs) (hb' : b' ∈ s.bs) (hn : b.nm = b'.nm) : b = b' := by
  have h1 := (find_mem h.srt b hb).2
  have h2 := (find_mem h.srt b' hb').2
  rw [← h1, ← h2, hn]

/-- What is shown of another book, behind whatever is done. -/
theorem shown_other {s : Sf} (hs : shelfOk s = true) (o : Oq) (other : ByteArray) (hne : o.nm ≠ other) (p p' : Pv) (hp : p ∈ shownPlain s) (hp' : p' ∈ shownPlain (didOp s o).1) (hn : p.nm = other) (hn' : p'.nm = other) : p.sz = p'.sz ∧ p.vs = p'.vs := by
  have hinv := (shelfOk_iff s).1 hs
  have hinv' := do_inv hinv o
  rw [shownPlain, if_pos hs] at hp
  rw [didOp_yes hs, shownPlain, if_pos ((shelfOk_iff _).2 hinv')] at hp'
  obtain ⟨b, hb, rfl⟩ := List.mem_map.1 hp
  obtain ⟨b', hb', rfl⟩ := List.mem_map.1 hp'
  obtain ⟨j, hj, rfl⟩ := List.mem_iff_getElem.1 hb
  have hk := keep_shown hinv o j hj (fun e => hne (by rw [← e]; exact hn))
  have e : b' = s.bs[j]'hj := name_one hinv' _ _ hb' hk.1 (by rw [show b'.nm = other from hn', show (s.bs[j]'hj).nm = other from hn])
  subst e
  exact ⟨rfl, hk.2.symm⟩

/-- It is shown before and behind. -/
theorem shown_there {s : Sf} (hs : shelfOk s = true) (o : Oq) (j : Nat) (hj : j < s.bs.length) (hne : o.nm ≠ (s.bs[j]'hj).nm) : (∃ p ∈ shownPlain s, p.nm = (s.bs[j]'hj).nm) ∧ ∃ p ∈ shownPlain (didOp s o).1, p.nm = (s.bs[j]'hj).nm := by
  have hinv := (shelfOk_iff s).1 hs
  have hk := keep_shown hinv o j hj (fun e => hne e.symm)
  refine ⟨⟨shownP s.ps (s.bs[j]'hj), ?_, rfl⟩, ⟨shownP (doOp s o).1.ps (s.bs[j]'hj), ?_, rfl⟩⟩
  · rw [shownPlain, if_pos hs]
    exact List.mem_map_of_mem (List.getElem_mem hj)
  · rw [didOp_yes hs, shownPlain, if_pos ((shelfOk_iff _).2 (do_inv hinv o))]
    exact List.mem_map_of_mem hk.1
end Go.Proofs.Ytchlkdhnjejgnaa

namespace Go.Proofs.Ytchlkdhnjejgnaa
set_option linter.unusedVariables false

set_option maxRecDepth 100000


theorem new_inv (n : Int) (h : 1 ≤ n ∧ n ≤ 24) : ShInv ⟨(newPool n).1.1, (newPool n).1.2, []⟩ := by
  have e : newPool n = ((List.replicate n.toNat 0, List.replicate n.toNat 0), true) := by rw [newPool, if_pos h]
  rw [e]
  have g : ∀ k : Nat, (List.replicate n.toNat (0 : Int)).getD k 0 = 0 := fun k => by
    rw [List.getD_eq_getElem?_getD, List.getElem?_replicate]
    split <;> rfl
  refine ⟨?_, ⟨rfl, ?_, ?_⟩, ?_, ?_, ?_, ?_, ?_⟩
  · simp only [List.length_replicate]; omega
  · simp only [List.length_replicate]
  · intro k _
    rw [g k]
    omega
  · exact Nat.zero_le _
  · intro b hb; cases hb
  · exact List.Pairwise.nil
  · intro k _
    show (List.replicate n.toNat (0 : Int)).getD k 0 = _
    rw [g k]
    rfl
  · intro k _ _
    rfl
end Go.Proofs.Ytchlkdhnjejgnaa

namespace Go.Proofs.Ytchlkdhnjejgnaa
open Go.RowKit

set_option linter.unusedVariables false

set_option maxRecDepth 100000


/-- A box of a pool: its two rows. -/
theorem pool_box (w : World) (v1 v2 : Value) (T : TypeId) : ∃ W0, W0 = w.alloc (.cells #[v1, v2] T) ∧ W0.heap[w.heap.size]? = some (.cells #[v1, v2] T (0, 0)) ∧ Below w.heap.size w W0 ∧ W0.heap.size = w.heap.size + 1 :=
  ⟨_, rfl, heap_alloc_new w _, bw_alloc (Below.refl _ _), by simp⟩

theorem getD_some (xs : List Int) (j : Nat) (h : j < xs.length) : (xs.map (Value.int .i64))[j]? = some (.int .i64 (xs.getD j 0)) := by
  rw [List.getElem?_map, List.getElem?_eq_getElem h, List.getD_eq_getElem?_getD, List.getElem?_eq_getElem h]; rfl

set_option maxHeartbeats 1600000 in
theorem specPoolOk_any (v1 v2 : Value) (cs ps : List Int) (w : World) (h1 : Reads w.heap.size w v1 (cs.map (Value.int .i64))) (h2 : Reads w.heap.size w v2 (ps.map (Value.int .i64))) :
    Calls Try.prog 35 #[.agg #[v1, v2]] w fun e w' => e = .returned (.bool (poolOk cs ps)) ∧ Below w.heap.size w w' := by
  obtain ⟨o1, cap1, rfl, m1, c1, -⟩ := h1
  obtain ⟨o2, cap2, rfl, m2, c2, -⟩ := h2
  simp only [List.length_map] at m1 m2 ⊢
  have C1 : Hid (∀ j u, (cs.map (Value.int .i64))[j]? = some u → ∃ g off, o1 = some ⟨g, off, none⟩ ∧ g < w.heap.size ∧ w.cell? ⟨g, off + j, none⟩ = some u) := c1
  have C2 : Hid (∀ j u, (ps.map (Value.int .i64))[j]? = some u → ∃ g off, o2 = some ⟨g, off, none⟩ ∧ g < w.heap.size ∧ w.cell? ⟨g, off + j, none⟩ = some u) := c2
  clear c1 c2
  unfold maxLen at m1 m2
  obtain ⟨W0, hW0, k0, d0, z0⟩ := pool_box w (.slice o1 cs.length cap1) (.slice o2 ps.length cap2) 26
  have HW0 : Hid (W0 = _) := hW0
  have p0 := at_cell k0 0
  have p1 := at_cell k0 1
  clear hW0 k0
  by_cases hl : (decide ((1 : Int) ≤ (cs.length : Int)) && decide ((cs.length : Int) ≤ 24)) = true
  · by_cases he : ps.length = cs.length
    · have hne : ((ps.length : Int) != (cs.length : Int)) = false := by simp [he]
      have hb : 1 ≤ cs.length ∧ cs.length ≤ 24 := by simp at hl; omega
      have HE : Hid (ps.length = cs.length) := he
      have he1 : ps.length ≤ cs.length := by omega
      have he2 : cs.length ≤ ps.length := by omega
      clear he
      go_enter Try.func35, Try.ntmps35
      go_wp2_with fail
      rw [← HW0.out]
      clear HW0
      refine (l1In_any _ _ _ _).mono ?_
      rintro e w' ⟨rfl, rfl⟩
      rw [hl]
      go_wp2_with fail
      go_loopw [3] (fun i wr => ∃ k : Nat, k ≤ cs.length ∧ i = .int .i64 k ∧ (∀ j, j < k → cellOk (cs.getD j 0) (ps.getD j 0) = true) ∧ wr = w') (fun i _ => cs.length - (intOf i).toNat)
      case atStart => exact ⟨0, Nat.zero_le _, rfl, fun j hj => by omega, rfl⟩
      case round =>
        obtain ⟨k, hk, rfl, hall, rfl⟩ := hrel
        have HA : Hid (∀ j, j < k → cellOk (cs.getD j 0) (ps.getD j 0) = true) := hall
        clear hall
        by_cases hlt : k < cs.length
        · obtain ⟨g1, of1, rfl, q1, cc1⟩ := C1.out k _ (getD_some cs k hlt)
          obtain ⟨g2, of2, rfl, q2, cc2⟩ := C2.out k _ (getD_some ps k (by omega))
          have d1 := (d0.cell (p := ⟨g1, of1 + k, none⟩) q1).trans cc1
          have d2 := (d0.cell (p := ⟨g2, of2 + k, none⟩) q2).trans cc2
          have HN : Hid (cellOk (cs.getD k 0) (ps.getD k 0) = true → ∀ j, j < k + 1 → cellOk (cs.getD j 0) (ps.getD j 0) = true) := fun h j hj => by
            rcases Nat.lt_or_ge j k with q | q
            · exact HA.out j q
            · obtain rfl : j = k := by omega
              exact h
          have HNo : Hid (cellOk (cs.getD k 0) (ps.getD k 0) = false → poolOk cs ps = false) := fun h => poolOk_no cs ps fun q => by rw [q.2.2.2 k hlt] at h; cases h
          clear C1 C2 cc1 cc2 HA
          have hle2 : (k : Int) < (ps.length : Int) := by rw [HE.out]; omega
          generalize cs.getD k 0 = c at *
          generalize ps.getD k 0 = p at *
          have HK : Hid (cellOk c p = ((decide (0 ≤ c) && decide (c ≤ 400)) && (decide (0 ≤ p) && decide (p ≤ 999)) && !(decide (c = 0) && !decide (p = 0)))) := rfl
          cases hc : (decide (0 ≤ c) && decide (c ≤ 400))
          · go_wp2_with fail
            refine (l1In_any _ _ _ _).mono ?_
            rintro e w1 ⟨rfl, rfl⟩
            rw [hc]
            go_wp2_with fail
            go_ret
            exact ⟨ret_bool (HNo.out (by rw [HK.out, hc]; rfl)).symm, d0⟩
          · cases hp : (decide (0 ≤ p) && decide (p ≤ 999))
            · go_wp2_with fail
              refine (l1In_any _ _ _ _).mono ?_
              rintro e w1 ⟨rfl, rfl⟩
              rw [hc]
              go_wp2_with fail
              refine (l1In_any _ _ _ _).mono ?_
              rintro e w1 ⟨rfl, rfl⟩
              rw [hp]
              go_wp2_with fail
              go_ret
              exact ⟨ret_bool (HNo.out (by rw [HK.out, hc, hp]; rfl)).symm, d0⟩
            · by_cases hc0 : c = 0
              · by_cases hp0 : p = 0
                · have HOK : Hid (cellOk c p = true) := by rw [Hid, HK.out, hc, hp]; simp [hp0]
                  subst hc0 hp0
                  go_wp2_with fail
                  refine (l1In_any _ _ _ _).mono ?_
                  rintro e w1 ⟨rfl, rfl⟩
                  go_wp2_with fail
                  refine (l1In_any _ _ _ _).mono ?_
                  rintro e w1 ⟨rfl, rfl⟩
                  go_wp2_with fail
                  go_roundw
                  case rel => exact ⟨k + 1, by omega, by go_num, HN.out HOK.out, by trivial⟩
                  case measure => simp [intOf]; omega
                · have HNO : Hid (cellOk c p = false) := by rw [Hid, HK.out, hc, hp]; simp [hp0, hc0]
                  subst hc0
                  have hp1 : (p != 0) = true := by simpa using hp0
                  go_wp2_with fail
                  refine (l1In_any _ _ _ _).mono ?_
                  rintro e w1 ⟨rfl, rfl⟩
                  go_wp2_with fail
                  refine (l1In_any _ _ _ _).mono ?_
                  rintro e w1 ⟨rfl, rfl⟩
                  rw [hp]
                  go_wp2_with fail
                  go_ret
                  exact ⟨ret_bool (HNo.out HNO.out).symm, d0⟩
              · have HOK : Hid (cellOk c p = true) := by rw [Hid, HK.out, hc, hp]; simp [hc0]
                have hc1 : (c == 0) = false := by simpa using hc0
                go_wp2_with fail
                refine (l1In_any _ _ _ _).mono ?_
                rintro e w1 ⟨rfl, rfl⟩
                rw [hc]
                go_wp2_with fail
                refine (l1In_any _ _ _ _).mono ?_
                rintro e w1 ⟨rfl, rfl⟩
                rw [hp]
                go_wp2_with fail
                go_roundw
                case rel => exact ⟨k + 1, by omega, by go_num, HN.out HOK.out, by trivial⟩
                case measure => simp [intOf]; omega
        · have hv : poolOk cs ps = true := (poolOk_iff cs ps).2 ⟨hb.1, hb.2, HE.out, fun j hj => HA.out j (by omega)⟩
          go_wp2_with fail
          go_ret
          exact ⟨ret_bool hv.symm, d0⟩
    · have hne : ((ps.length : Int) != (cs.length : Int)) = true := by simp; omega
      have hv : poolOk cs ps = false := poolOk_no cs ps fun q => he q.2.2.1
      rw [hv]
      go_enter Try.func35, Try.ntmps35
      go_wp2_with fail
      rw [← HW0.out]
      clear HW0
      refine (l1In_any _ _ _ _).mono ?_
      rintro e w' ⟨rfl, rfl⟩
      rw [hl]
      go_wp2_with fail
      go_ret
      exact ⟨rfl, d0⟩
  · have hf : (decide ((1 : Int) ≤ (cs.length : Int)) && decide ((cs.length : Int) ≤ 24)) = false := by simpa using hl
    have hv : poolOk cs ps = false := poolOk_no cs ps fun q => hl (by simp; omega)
    rw [hv]
    go_enter Try.func35, Try.ntmps35
    go_wp2_with fail
    rw [← HW0.out]
    clear HW0
    refine (l1In_any _ _ _ _).mono ?_
    rintro e w' ⟨rfl, rfl⟩
    rw [hf]
    go_wp2_with fail
    go_ret
    exact ⟨rfl, d0⟩
end Go.Proofs.Ytchlkdhnjejgnaa

