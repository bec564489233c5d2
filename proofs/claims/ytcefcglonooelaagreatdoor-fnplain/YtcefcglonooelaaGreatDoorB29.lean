/-
  Contracts and plain laws, one chapter behind the other.
-/
import Derived.Lib.Strings
import Derived.Lib.Slices
import Derived.Lib.Walk
import Derived.Lib.Bytealg
import Derived.Test.YtcefcglonooelaaGreatDoorB03
import Derived.Test.YtcefcglonooelaaGreatDoorB04
import Derived.Test.YtcefcglonooelaaGreatDoorB06
import Derived.Test.YtcefcglonooelaaGreatDoorB08
import Derived.Test.YtcefcglonooelaaGreatDoorB12
import Derived.Test.YtcefcglonooelaaGreatDoorB26
namespace Go.Proofs.YtcefcglonooelaaGreatDoor
set_option linter.unusedVariables false

set_option maxRecDepth 100000


theorem pv_ok_by {p : Pv} (h1 : Nums.nameB p.nm.data.toList = true) (h2 : 1 ≤ p.sz ∧ p.sz ≤ 16) (h3 : 0 ≤ p.ep ∧ p.ep ≤ 1000) (h4 : (p.vs.length : Int) = p.sz) (h5 : valuesB p.vs = true) : p.ok = true := by
  simp only [Pv.ok, plainOk, Bool.and_eq_true, decide_eq_true_eq]
  exact ⟨⟨⟨⟨h5, h1⟩, h2⟩, h3⟩, h4⟩

theorem pv_all {p : Pv} (h : p.ok = true) : Nums.nameB p.nm.data.toList = true ∧ (1 ≤ p.sz ∧ p.sz ≤ 16) ∧ (0 ≤ p.ep ∧ p.ep ≤ 1000) ∧ (p.vs.length : Int) = p.sz ∧ valuesB p.vs = true := by
  simp only [Pv.ok, plainOk, Bool.and_eq_true, decide_eq_true_eq] at h
  exact ⟨h.1.1.1.2, h.1.1.2, h.1.2, h.2, h.1.1.1.1⟩

theorem plains_of {l : List Pv} (h1 : l.length ≤ 6) (h2 : ∀ p ∈ l, p.ok = true) (h3 : (l.map Pv.nm).Pairwise (fun a b => ltB a b = true)) : plainsOk l = true := by
  simp only [plainsOk, Bool.and_eq_true, decide_eq_true_eq, List.all_eq_true]
  exact ⟨⟨h1, h2⟩, (sorted_iff _).2 h3⟩

theorem plains_srt {l : List Pv} (h : plainsOk l = true) : (l.map Pv.nm).Pairwise (fun a b => ltB a b = true) := by
  simp only [plainsOk, Bool.and_eq_true] at h
  exact (sorted_iff _).1 h.2

theorem pb_names (l : List Pv) : (l.map Pv.pb).map Pb.nm = l.map Pv.nm := by rw [List.map_map]; rfl

theorem put_len (l : List Pv) (p : Pv) : (putV l p).length = l.length + 1 := by
  unfold putV
  simp only [List.length_append, List.length_take, List.length_drop, List.length_cons, List.length_nil]
  have := insertAt_le (l.map Pv.pb) p.nm
  rw [List.length_map] at this
  omega

theorem put_mem {l : List Pv} {p x : Pv} (h : x ∈ putV l p) : x ∈ l ∨ x = p := by
  simp only [putV, List.mem_append, List.mem_singleton] at h
  rcases h with (h | h) | h
  · exact .inl (List.mem_of_mem_take h)
  · exact .inr h
  · exact .inl (List.mem_of_mem_drop h)

theorem put_ok {l : List Pv} {p : Pv} (h : plainsOk l = true) (hp : p.ok = true) (hl : l.length ≠ 6) (hf : findP (l.map Pv.pb) p.nm < 0) : plainsOk (putV l p) = true := by
  have h6 := (plains_ok h).1
  refine plains_of (by rw [put_len]; omega) (fun x hx => ?_) ?_
  · rcases put_mem hx with hx | rfl
    · exact (plains_ok h).2 x hx
    · exact hp
  · have hs := plains_srt h
    rw [← pb_names] at hs
    have h2 := insert_sorted (l.map Pv.pb) p.pb hs (fun x hx => find_not (l.map Pv.pb) p.nm hf x hx)
    have e : (putV l p).map Pv.nm = (insertP (l.map Pv.pb) p.pb).map Pb.nm := by
      unfold putV insertP
      simp only [List.map_append, List.map_take, List.map_drop, List.map_map]
      rfl
    rw [e]
    exact h2

theorem set_ok {l : List Pv} {i : Nat} {y : Pv} (h : plainsOk l = true) (hi : i < l.length) (hy : y.ok = true) (hn : y.nm = l[i].nm) : plainsOk (l.set i y) = true := by
  refine plains_of (by rw [List.length_set]; exact (plains_ok h).1) (fun x hx => ?_) ?_
  · rcases List.mem_or_eq_of_mem_set hx with hx | rfl
    · exact (plains_ok h).2 x hx
    · exact hy
  · have e : (l.set i y).map Pv.nm = l.map Pv.nm := by
      rw [List.map_set, hn]
      apply List.ext_getElem
      · simp
      · intro n h1 h2
        by_cases e : i = n
        · subst e; rw [List.getElem_set_self, List.getElem_map]
        · rw [List.getElem_set_ne e]
    rw [e]
    exact plains_srt h

theorem values_set {vs : List Int} (h : valuesB vs = true) (i : Nat) (z : Int) (hz : 0 ≤ z ∧ z ≤ 999) : valuesB (vs.set i z) = true := by
  unfold valuesB at h ⊢
  rw [List.all_eq_true] at h ⊢
  intro x hx
  rcases List.mem_or_eq_of_mem_set hx with hx | rfl
  · exact h x hx
  · simp [hz.1, hz.2]

theorem values_zeros (n : Nat) : valuesB (List.replicate n 0) = true := by
  unfold valuesB
  rw [List.all_eq_true]
  intro x hx
  obtain ⟨-, rfl⟩ := List.mem_replicate.1 hx
  decide

theorem values_take {vs : List Int} (h : valuesB vs = true) (n k : Nat) : valuesB ((vs ++ List.replicate k 0).take n) = true := by
  unfold valuesB at h ⊢
  rw [List.all_eq_true] at h ⊢
  intro x hx
  rcases List.mem_append.1 (List.mem_of_mem_take hx) with hx | hx
  · exact h x hx
  · obtain ⟨-, rfl⟩ := List.mem_replicate.1 hx
    decide

/-- Right plains stay right. -/
theorem do_plains {l : List Pv} {o : Oq} {told : Int} (h : plainsOk l = true) : plainsOk (doPlain l o told).1 = true := by
  unfold doPlain
  split
  · exact h
  rename_i hb
  have hok : opOk o = true := by simpa using hb
  split
  · exact h
  rename_i hr0
  have href : refused (l.map Pv.pb) o = 0 := Classical.not_not.1 hr0
  split
  · exact h
  rename_i hfull
  have hop := op_parts hok
  have hpt := refused_parts href
  split
  · rename_i hk
    have hv := hop.2.2.2.2.1 (by rw [hk]; decide)
    have h2 := hpt.2.1 hk
    rw [List.length_map] at h2
    refine put_ok h (pv_ok_by hop.1 hv (by show (0 : Int) ≤ 0 ∧ (0 : Int) ≤ 1000; omega) ?_ (values_zeros _)) h2.2 h2.1
    show ((List.replicate o.va.toNat (0 : Int)).length : Int) = o.va
    rw [List.length_replicate]
    omega
  rename_i hk1
  obtain ⟨i, hi, hfp, hpk, hpa, hpe⟩ := foundV h href hk1
  have hpl : plainAt l (findP (l.map Pv.pb) o.nm).toNat = l[i] := by rw [hfp, Int.toNat_natCast]; simp [plainAt, List.getD_eq_getElem?_getD, hi]
  have hpp := pv_all hpk
  split
  · rw [hfp, Int.toNat_natCast]
    refine plains_of ?_ (fun x hx => ?_) ?_
    · have := (plains_ok h).1
      rw [List.length_append, List.length_take, List.length_drop]
      omega
    · rcases List.mem_append.1 hx with hx | hx
      · exact (plains_ok h).2 x (List.mem_of_mem_take hx)
      · exact (plains_ok h).2 x (List.mem_of_mem_drop hx)
    · refine List.Pairwise.sublist ?_ (plains_srt h)
      rw [← List.eraseIdx_eq_take_drop_succ]
      exact (List.eraseIdx_sublist _ _).map _
  split
  · rename_i hko
    have h2 := hpt.2.2.1 hko
    have h3 := h2.2 hk1
    rw [List.length_map] at h3
    rw [hpl]
    exact put_ok h (pv_ok_by (hop.2.2.1 hko) hpp.2.1 (by show (0 : Int) ≤ 0 ∧ (0 : Int) ≤ 1000; omega) hpp.2.2.2.1 hpp.2.2.2.2) h3 h2.1
  · rename_i hk6 hko
    rw [hpl, hfp, Int.toNat_natCast]
    have hk9 := hop.2.1
    have hk : o.k = 2 ∨ o.k = 3 ∨ o.k = 7 ∨ o.k = 8 ∨ o.k = 9 := by
      have h9 : o.k = 1 ∨ o.k = 2 ∨ o.k = 3 ∨ o.k = 4 ∨ o.k = 5 ∨ o.k = 6 ∨ o.k = 7 ∨ o.k = 8 ∨ o.k = 9 := by omega
      rcases h9 with q | q | q | q | q | q | q | q | q
      · exact absurd q hk1
      · exact .inl q
      · exact .inr (.inl q)
      · rw [q] at hko; exact absurd rfl hko
      · rw [q] at hko; exact absurd rfl hko
      · exact absurd q hk6
      · exact .inr (.inr (.inl q))
      · exact .inr (.inr (.inr (.inl q)))
      · exact .inr (.inr (.inr (.inr q)))
    unfold doOne
    split
    · exact h
    split
    · rename_i hk8
      have h1 := hpe hk8
      refine set_ok h hi (pv_ok_by hpp.1 hpp.2.1 ?_ hpp.2.2.2.1 hpp.2.2.2.2) rfl
      show 0 ≤ l[i].ep + 1 ∧ l[i].ep + 1 ≤ 1000
      have := hpp.2.2.1
      omega
    split
    · rename_i hk7
      have hv := hop.2.2.2.2.1 (by rw [hk7]; decide)
      refine set_ok h hi (pv_ok_by hpp.1 hv hpp.2.2.1 ?_ (values_take hpp.2.2.2.2 _ _)) rfl
      show (((l[i].vs ++ List.replicate 16 0).take o.va.toNat).length : Int) = o.va
      rw [List.length_take, List.length_append, List.length_replicate]
      omega
    split
    · refine set_ok h hi (pv_ok_by hpp.1 hpp.2.1 hpp.2.2.1 ?_ (values_set hpp.2.2.2.2 _ _ (by omega))) rfl
      show ((l[i].vs.set _ _).length : Int) = l[i].sz
      rw [List.length_set]
      exact hpp.2.2.2.1
    · rename_i e9 e8 e7 e3
      have hk2 : o.k = 2 := by omega
      refine set_ok h hi (pv_ok_by hpp.1 hpp.2.1 hpp.2.2.1 ?_ (values_set hpp.2.2.2.2 _ _ (hop.2.2.2.2.2 hk2))) rfl
      show ((l[i].vs.set _ _).length : Int) = l[i].sz
      rw [List.length_set]
      exact hpp.2.2.2.1

theorem did_plains (l : List Pv) (o : Oq) (told : Int) : plainsOk (didPlain l o told).1 = true := by
  unfold didPlain
  split
  · rename_i h
    exact do_plains h
  · rfl
end Go.Proofs.YtcefcglonooelaaGreatDoor

namespace Go.Proofs.YtcefcglonooelaaGreatDoor
open Go.RowKit

set_option linter.unusedVariables false

set_option maxRecDepth 100000


/-! ### Plain -/
def cmpI (a b : ByteArray) : Int := Lib.compareBytes a.data.toList b.data.toList

theorem cmp_less : ∀ (x y : List UInt8), Lib.compareBytes x y < 0 ↔ Op.bytesLess x y = true := by
  intro x
  induction x with
  | nil =>
    intro y
    cases y with
    | nil => simp [Lib.compareBytes, Op.bytesLess]
    | cons b u => simp [Lib.compareBytes, Op.bytesLess]
  | cons a t ih =>
    intro y
    cases y with
    | nil => simp [Lib.compareBytes, Op.bytesLess]
    | cons b u =>
      simp only [Lib.compareBytes, Op.bytesLess, Bool.or_eq_true, decide_eq_true_eq, Bool.and_eq_true, beq_iff_eq]
      by_cases h1 : a < b
      · simp [h1]
      · by_cases h2 : b < a
        · have hne : a ≠ b := fun e => by subst e; exact UInt8.lt_irrefl a h2
          simp [h1, h2, hne]
        · have he : a = b := UInt8.le_antisymm (UInt8.not_lt.1 h2) (UInt8.not_lt.1 h1)
          subst he
          simp [ih u]

theorem cmpI_neg (a b : ByteArray) : cmpI a b < 0 ↔ ltB a b = true := by
  rw [cmpI, cmp_less, ltB, ByteArray.toList_eq, ByteArray.toList_eq]

/-! ### Texts held against one another -/
set_option maxHeartbeats 1000000 in
theorem cmpString_any (a b : ByteArray) (w : World) :
    Calls Tryz.prog 174 #[.string a, .string b] w fun e w' => e = .returned (.int .i64 (cmpI a b)) ∧ w' = w := by
  go_enter Tryz.func174, Tryz.ntmps174
  go_wp2
  rw [run_callFunc_extern Tryz.func180 (by kernel_rfl) (by kernel_rfl) (by kernel_rfl) (e := Extern.BytealgCompare.compare) (by kernel_rfl), Lib.run_compareString]
  simp only [Result.andThen]
  rw [Oper.upon_value]
  go_wp2
  go_ret
  exact ⟨rfl, rfl⟩

theorem compare_any (a b : ByteArray) (w : World) :
    Calls Tryz.prog 157 #[.string a, .string b] w fun e w' => e = .returned (.int .i64 (cmpI a b)) ∧ w' = w := by
  go_enter Tryz.func157, Tryz.ntmps157
  go_wp2_with (go_at_call 174; refine (cmpString_any _ _ _).mono ?_; rintro e w' ⟨rfl, rfl⟩)
  go_ret
  exact ⟨rfl, rfl⟩

theorem len64_any (n : Nat) (h : n ≤ 7) (w : World) :
    Calls Tryz.prog 173 #[.int .u64 n] w fun e w' => ∃ r : Int, e = .returned (.int .i64 r) ∧ w' = w := by
  have hn : n = 0 ∨ n = 1 ∨ n = 2 ∨ n = 3 ∨ n = 4 ∨ n = 5 ∨ n = 6 ∨ n = 7 := by omega
  rcases hn with rfl | rfl | rfl | rfl | rfl | rfl | rfl | rfl
  all_goals
    go_enter Tryz.func173, Tryz.ntmps173
    go_wp2
    go_ret
    exact ⟨_, rfl, rfl⟩

theorem len_any (n : Nat) (h : n ≤ 7) (w : World) :
    Calls Tryz.prog 156 #[.int .u64 n] w fun e w' => ∃ r : Int, e = .returned (.int .i64 r) ∧ w' = w := by
  go_enter Tryz.func156, Tryz.ntmps156
  go_wp2_with fail
  refine (len64_any n h _).mono ?_
  rintro e w' ⟨r, rfl, rfl⟩
  go_wp2_with fail
  go_ret
  exact ⟨r, rfl, rfl⟩
end Go.Proofs.YtcefcglonooelaaGreatDoor

namespace Go.Proofs.YtcefcglonooelaaGreatDoor
open Go.RowKit

set_option linter.unusedVariables false

set_option maxRecDepth 100000


theorem hasName_in (nm : ByteArray) (sz : Int) (m : Value) (fx : Bool) (ep : Int) (n : ByteArray) (c : Nat) (w : World) (hm : ∃ o k cap, m = .slice o k cap) (hc : c < w.heap.size) (hn : w.cell? ⟨c, 0, none⟩ = some (.string n)) :
    Calls Tryz.prog 154 #[.agg #[.string nm, .int .i64 sz, m, .bool fx, .int .i64 ep], .pointer (some ⟨c, 0, none⟩)] w fun e w' => e = .returned (.bool (decide (nm = n))) ∧ Below w.heap.size w w' := by
  obtain ⟨o, k, cap, rfl⟩ := hm
  obtain ⟨W0, hW0, k0, d0, z0⟩ := box1 w #[.string nm, .int .i64 sz, .slice o k cap, .bool fx, .int .i64 ep] 87
  have HW0 : Hid (W0 = _) := hW0
  have p0 := at_cell k0 0
  have c0 := (d0.cell (p := ⟨c, 0, none⟩) hc).trans hn
  rw [hW0] at p0 c0
  have hq := text_eq nm n
  clear hW0 k0
  go_enter Tryz.func154, Tryz.ntmps154
  go_wp2_with fail
  go_ret
  exact ⟨rfl, by rw [← HW0.out]; exact d0⟩

set_option maxHeartbeats 1600000 in
theorem indexBook_any (v : Value) (bs : List Bk) (n : ByteArray) (c : Nat) (w : World) (hms : ∀ b ∈ bs, ∃ o k cap, b.m = .slice o k cap) (r : ReadsR 5 bookC w.heap.size w v bs) (hc : c < w.heap.size) (hn : w.cell? ⟨c, 0, none⟩ = some (.string n)) :
    Calls Tryz.prog 124 #[v, .func (.func 154) #[] #[.pointer (some ⟨c, 0, none⟩)]] w fun e w' => e = .returned (.int .i64 (findB bs n)) ∧ Below w.heap.size w w' := by
  obtain ⟨o, cap, rfl, hm, hcs, -⟩ := r
  have HC : Hid _ := hcs
  have HM : Hid _ := hms
  unfold maxLen at hm
  clear hcs hms
  go_enter Tryz.func124, Tryz.ntmps124
  go_wp2_with fail
  go_loopw [8] (fun i wr => ∃ k : Nat, k ≤ bs.length ∧ i = .int .i64 k ∧ findB bs n = findFrom n ((bs.map Bk.nm).drop k) k ∧ Below w.heap.size w wr) (fun i _ => bs.length - (intOf i).toNat)
  case atStart => exact ⟨0, Nat.zero_le _, rfl, rfl, Below.refl _ _⟩
  case round =>
    obtain ⟨k, hk, rfl, hf, hb⟩ := hrel
    by_cases hlt : k < bs.length
    · obtain ⟨g, off, rfl, hg, hx⟩ := HC.out k bs[k] (List.getElem?_eq_getElem hlt)
      rw [find_at bs n k hlt] at hf
      have HF : Hid _ := hf
      have a0 := (hb.cell (p := ⟨g, off + k * 5, none⟩) hg).trans (hx 0 _ rfl)
      have a1 := (hb.cell (p := ⟨g, off + k * 5 + 1, none⟩) hg).trans (hx 1 _ rfl)
      have a2 := (hb.cell (p := ⟨g, off + k * 5 + 2, none⟩) hg).trans (hx 2 _ rfl)
      have a3 := (hb.cell (p := ⟨g, off + k * 5 + 3, none⟩) hg).trans (hx 3 _ rfl)
      have a4 := (hb.cell (p := ⟨g, off + k * 5 + 4, none⟩) hg).trans (hx 4 _ rfl)
      have hsl := HM.out bs[k] (List.getElem_mem hlt)
      have cn := (hb.cell (p := ⟨c, 0, none⟩) hc).trans hn
      have hcl := Nat.lt_of_lt_of_le hc hb.size
      clear hf HC HM hx
      generalize bs[k] = x at a0 a1 a2 a3 a4 HF hsl
      obtain ⟨nm, sz, m, rs, fx, ep⟩ := x
      simp only at a0 a1 a2 a3 a4 HF hsl
      obtain ⟨o', k', cap', rfl⟩ := hsl
      go_wp2_with (go_at_call 154; refine (hasName_in nm sz _ fx ep n c _ ⟨_, _, _, rfl⟩ hcl cn).mono ?_)
      rintro e w1 ⟨rfl, b1⟩
      replace hb := bw_call hb b1
      clear a0 a1 a2 a3 a4 b1 cn hcl
      by_cases hx : nm = n
      · have HV : Hid (findB bs n = k) := by have := HF.out; rwa [if_pos hx] at this
        rw [decide_eq_true hx]
        clear HF hx
        go_wp2_with fail
        go_ret
        exact ⟨ret_int HV.out.symm, hb⟩
      · have HV : Hid (findB bs n = findFrom n ((bs.map Bk.nm).drop (k + 1)) (k + 1)) := by have := HF.out; rwa [if_neg hx] at this
        rw [decide_eq_false hx]
        clear HF hx
        go_wp2_with fail
        go_roundw
        case rel => exact ⟨k + 1, by omega, by go_num, HV.out, hb⟩
        case measure => simp [intOf]; omega
    · rw [find_end bs n k hlt] at hf
      have HF : Hid _ := hf
      clear hf HC
      go_wp2_with fail
      go_ret
      exact ⟨ret_int HF.out.symm, hb⟩

theorem hasName_any (n : ByteArray) (w : World) :
    Calls Tryz.prog 125 #[.string n] w fun e w' => e = .returned (.func (.func 154) #[] #[.pointer (some ⟨w.heap.size, 0, none⟩)]) ∧ w' = w.alloc (.cells #[.string n] 9) := by
  have hmf : ∀ (fn : Fn) (first cap : Array Value) (w : World), (Instr.makeFunc fn first cap).run Tryz.prog w = .ok (.func fn first cap) w := fun _ _ _ _ => rfl
  go_enter Tryz.func125, Tryz.ntmps125
  go_wp2_with fail
  go_ret
  exact ⟨rfl, rfl⟩

theorem implFindBook_any (v : Value) (bs : List Bk) (n : ByteArray) (w : World) (hms : ∀ b ∈ bs, ∃ o k cap, b.m = .slice o k cap) (r : ReadsR 5 bookC w.heap.size w v bs) :
    Calls Tryz.prog 76 #[v, .string n] w fun e w' => e = .returned (.int .i64 (findB bs n)) ∧ Below w.heap.size w w' := by
  obtain ⟨W0, hW0, k0, d0, z0⟩ := box1 w #[.string n] 9
  have r0 := (r.below d0).mono d0.size
  have p0 := at_cell k0 0
  have hlt := heap_lt k0
  have HM : Hid _ := hms
  clear k0 r hms
  go_enter Tryz.func76, Tryz.ntmps76
  go_wp2_with fail
  refine (hasName_any n _).mono ?_
  rintro e w1 ⟨rfl, h1⟩
  rw [← hW0] at h1
  subst h1
  clear hW0
  go_wp2_with fail
  refine (indexBook_any v bs n _ _ HM.out r0 hlt p0).mono ?_
  rintro e w2 ⟨rfl, b2⟩
  go_wp2_with fail
  go_ret
  exact ⟨rfl, bw_call d0 b2⟩
end Go.Proofs.YtcefcglonooelaaGreatDoor

namespace Go.Proofs.YtcefcglonooelaaGreatDoor
open Nums

set_option linter.unusedVariables false

set_option maxRecDepth 100000


/-- What of a kind lies within which limits. -/
def lmAt (k : Int) : Int := if kAt k = true then 255 else 0

def lmLo (k : Int) : Int := if kSize k = true then 1 else 0

def lmHi (k : Int) : Int := if kSize k = true then 16 else if k = 2 then 999 else 0

def lmEp (k : Int) : Int := if kEpoch k = true then 1000 else 0

def otOk (ot : ByteArray) (h : Bool) : Bool := if h = true then nameB ot.data.toList else decide (ot.size = 0)

def opBy (o : Oq) : Bool :=
  inB o.k 1 9 && nameB o.nm.data.toList && otOk o.ot (kOther o.k) && inB o.at_ 0 (lmAt o.k) && inB o.va (lmLo o.k) (lmHi o.k) && inB o.ep 0 (lmEp o.k)

theorem inB_zero (x : Int) : inB x 0 0 = decide (x = 0) := by
  rw [Bool.eq_iff_iff, inB_iff, decide_eq_true_eq]; omega

theorem inB_or (b : Bool) (x hi : Int) (h : 0 ≤ hi) : ((b || decide (x = 0)) && inB x 0 hi) = inB x 0 (if b = true then hi else 0) := by
  cases b
  · rw [Bool.eq_iff_iff]
    simp only [Bool.false_or, Bool.and_eq_true, inB_iff, decide_eq_true_eq, Bool.false_eq_true, if_false]
    omega
  · simp

theorem ot_by (ot : ByteArray) (b : Bool) : ((b == decide (ot.size ≠ 0)) && (!b || nameB ot.data.toList)) = otOk ot b := by
  cases b
  · simp [otOk]
  · unfold otOk
    rw [if_pos rfl]
    cases h : nameB ot.data.toList
    · simp
    · have := nameB_size ot h
      have e : decide (ot.size ≠ 0) = true := by simp only [decide_eq_true_eq]; omega
      rw [e]
      rfl

theorem val_by (k va : Int) : valOk k va = inB va (lmLo k) (lmHi k) := by
  unfold valOk lmLo lmHi
  split
  · rfl
  · split
    · rfl
    · exact (inB_zero va).symm

theorem opOk_by (o : Oq) : opOk o = opBy o := by
  have h1 := ot_by o.ot (kOther o.k)
  have h2 := inB_or (kAt o.k) o.at_ 255 (by omega)
  have h3 := inB_or (kEpoch o.k) o.ep 1000 (by omega)
  have h4 := val_by o.k o.va
  have e : opOk o = (nameB o.nm.data.toList && inB o.k 1 9 && ((kOther o.k == decide (o.ot.size ≠ 0)) && (!kOther o.k || nameB o.ot.data.toList)) && ((kAt o.k || decide (o.at_ = 0)) && inB o.at_ 0 255) && ((kEpoch o.k || decide (o.ep = 0)) && inB o.ep 0 1000) && valOk o.k o.va) := by
    unfold opOk
    simp only [Bool.and_assoc]
  rw [e, h1, h2, h3, h4]
  unfold opBy lmAt lmEp
  generalize nameB o.nm.data.toList = a
  generalize inB o.k 1 9 = b
  generalize otOk o.ot (kOther o.k) = c
  generalize inB o.at_ 0 _ = d
  generalize inB o.ep 0 _ = e
  generalize inB o.va _ _ = f
  cases a <;> cases b <;> cases c <;> cases d <;> cases e <;> cases f <;> rfl
end Go.Proofs.YtcefcglonooelaaGreatDoor

namespace Go.Proofs.YtcefcglonooelaaGreatDoor
open Go.RowKit

set_option linter.unusedVariables false

set_option maxRecDepth 100000


theorem within_any (x lo hi : Int) (w : World) :
    Calls Tryz.prog 150 #[.int .i64 x, .int .i64 lo, .int .i64 hi] w fun e w' => e = .returned (.bool (inB x lo hi)) ∧ w' = w := by
  by_cases h : lo ≤ x
  · go_enter Tryz.func150, Tryz.ntmps150
    go_wp2
    go_ret
    exact ⟨ret_bool (by simp [inB, h]), rfl⟩
  · go_enter Tryz.func150, Tryz.ntmps150
    go_wp2
    go_ret
    exact ⟨ret_bool (by simp [inB]; omega), rfl⟩

theorem otherOk_any (ot : ByteArray) (b : Bool) (w : World) (ho : ot.size ≤ maxLen) :
    Calls Tryz.prog 149 #[.string ot, .bool b] w fun e w' => e = .returned (.bool (otOk ot b)) ∧ w' = w := by
  cases b
  · have HE : Hid (_ = _) := text_nil ot
    have HV : Hid (otOk ot false = decide (ot.size = 0)) := by simp [Hid, otOk]
    go_enter Tryz.func149, Tryz.ntmps149
    go_wp2_with fail
    go_ret
    exact ⟨ret_bool (by rw [HV.out, ← HE.out]; simp), rfl⟩
  · have HV : Hid (otOk ot true = Nums.nameB ot.data.toList) := by simp [Hid, otOk]
    go_enter Tryz.func149, Tryz.ntmps149
    go_wp2_with fail
    refine (implName_any ot _ ho).mono ?_
    rintro e w' ⟨rfl, rfl⟩
    go_wp2_with fail
    go_ret
    exact ⟨ret_bool HV.out.symm, rfl⟩

/-- What limitsOf answers. -/
def limV (k : Int) : Value := .tuple #[.agg #[.bool (kOther k), .int .i64 (lmAt k), .int .i64 (lmLo k), .int .i64 (lmHi k), .int .i64 (lmEp k)], .bool (inB k 1 9)]

theorem limits_in (k : Int) (w : World) (h : k = 1 ∨ k = 2 ∨ k = 3 ∨ k = 4 ∨ k = 5 ∨ k = 6 ∨ k = 7 ∨ k = 8 ∨ k = 9) :
    Calls Tryz.prog 148 #[.int .i64 k] w fun e w' => e = .returned (limV k) ∧ Below w.heap.size w w' := by
  rcases h with rfl | rfl | rfl | rfl | rfl | rfl | rfl | rfl | rfl
  all_goals
    go_enter Tryz.func148, Tryz.ntmps148
    go_wp2_with fail
    exact bodyPost_ret (v := limV _) (by simp [results, Tryz.results148, go_sem]; rfl) rfl ⟨rfl, by go_grown⟩

theorem limits_out (k : Int) (w : World) (h : ¬ (1 ≤ k ∧ k ≤ 9)) :
    Calls Tryz.prog 148 #[.int .i64 k] w fun e w' => e = .returned (limV k) ∧ Below w.heap.size w w' := by
  have n1 : ¬ k = 1 := by omega
  have n2 : ¬ k = 2 := by omega
  have n3 : ¬ k = 3 := by omega
  have n4 : ¬ k = 4 := by omega
  have n5 : ¬ k = 5 := by omega
  have n6 : ¬ k = 6 := by omega
  have n7 : ¬ k = 7 := by omega
  have n8 : ¬ k = 8 := by omega
  have n9 : ¬ k = 9 := by omega
  have HV : Hid (limV k = .tuple #[.agg #[.bool false, .int .i64 0, .int .i64 0, .int .i64 0, .int .i64 0], .bool false]) := by
    have e : inB k 1 9 = false := by rw [Bool.eq_false_iff, ne_eq, inB_iff]; exact h
    unfold limV
    rw [Hid, e]
    simp [lmAt, lmLo, lmHi, lmEp, kAt, kSize, kEpoch, kOther, *]
  go_enter Tryz.func148, Tryz.ntmps148
  go_wp2_with fail
  exact bodyPost_ret (v := .tuple #[.agg #[.bool false, .int .i64 0, .int .i64 0, .int .i64 0, .int .i64 0], .bool false]) (by simp [results, Tryz.results148, go_sem]) rfl ⟨by rw [HV.out], by go_grown⟩

theorem limits_any (k : Int) (w : World) :
    Calls Tryz.prog 148 #[.int .i64 k] w fun e w' => e = .returned (limV k) ∧ Below w.heap.size w w' := by
  by_cases h : 1 ≤ k ∧ k ≤ 9
  · exact limits_in k w (by omega)
  · exact limits_out k w h

set_option maxHeartbeats 1600000 in
theorem implOpOk_any (k : Int) (nm ot : ByteArray) (at_ va ep : Int) (w : World) (hn : nm.size ≤ maxLen) (ho : ot.size ≤ maxLen) (fk : I64 k) (fa : I64 at_) (fv : I64 va) (fe : I64 ep) :
    Calls Tryz.prog 113 #[.agg #[.int .i64 k, .string nm, .string ot, .int .i64 at_, .int .i64 va, .int .i64 ep]] w fun e w' => e = .returned (.bool (opOk ⟨k, nm, ot, at_, va, ep⟩)) ∧ Below w.heap.size w w' := by
  rw [opOk_by]
  obtain ⟨W0, hW0, k0, d0, z0⟩ := box1 w #[.int .i64 k, .string nm, .string ot, .int .i64 at_, .int .i64 va, .int .i64 ep] 26
  have HW0 : Hid (W0 = _) := hW0
  have s0 := heap_lt k0
  have p0 := at_cell k0 0
  clear hW0 z0
  go_enter Tryz.func113, Tryz.ntmps113
  go_wp2_with fail
  rw [← HW0.out]
  clear HW0 p0
  refine (limits_any k _).mono ?_
  unfold limV
  rintro e w1 ⟨rfl, b1⟩
  replace k0 := (b1.block _ s0).trans k0
  replace d0 := bw_call d0 b1
  have t0 := heap_lt k0
  have o1 := at_cell k0 1
  obtain ⟨W1, hW1, k1, d1, z1⟩ := box1 w1 #[.bool (kOther k), .int .i64 (lmAt k), .int .i64 (lmLo k), .int .i64 (lmHi k), .int .i64 (lmEp k)] 181
  have HW1 : Hid (W1 = _) := hW1
  replace k0 := (d1.block _ t0).trans k0
  replace d0 := bw_call d0 d1
  have p1 := at_cell k0 1
  have p2 := at_cell k0 2
  have p3 := at_cell k0 3
  have p4 := at_cell k0 4
  have p5 := at_cell k0 5
  have r0 := at_cell k1 0
  have r1 := at_cell k1 1
  have r2 := at_cell k1 2
  have r3 := at_cell k1 3
  have r4 := at_cell k1 4
  have HB : Hid (opBy ⟨k, nm, ot, at_, va, ep⟩ = (inB k 1 9 && Nums.nameB nm.data.toList && otOk ot (kOther k) && inB at_ 0 (lmAt k) && inB va (lmLo k) (lmHi k) && inB ep 0 (lmEp k))) := rfl
  clear b1 d1 z1 hW1 k0 k1 s0
  generalize kOther k = x0 at *
  generalize lmAt k = x1 at *
  generalize lmLo k = x2 at *
  generalize lmHi k = x3 at *
  generalize lmEp k = x4 at *
  generalize inB k 1 9 = c0 at *
  cases c0
  · go_wp2_with fail
    rw [← HW1.out]
    clear HW1
    go_ret
    exact ⟨ret_bool (by rw [HB.out]; rfl), d0⟩
  go_wp2_with fail
  rw [← HW1.out]
  clear HW1 o1 t0
  refine (implName_any nm _ hn).mono ?_
  rintro e w' ⟨rfl, rfl⟩
  generalize Nums.nameB nm.data.toList = c1 at *
  cases c1
  · go_wp2_with fail
    go_ret
    exact ⟨ret_bool (by rw [HB.out]; rfl), d0⟩
  go_wp2_with fail
  refine (otherOk_any ot x0 _ ho).mono ?_
  rintro e w' ⟨rfl, rfl⟩
  generalize otOk ot x0 = c2 at *
  cases c2
  · go_wp2_with fail
    go_ret
    exact ⟨ret_bool (by rw [HB.out]; rfl), d0⟩
  go_wp2_with fail
  refine (within_any at_ 0 x1 _).mono ?_
  rintro e w' ⟨rfl, rfl⟩
  generalize inB at_ 0 x1 = c3 at *
  cases c3
  · go_wp2_with fail
    go_ret
    exact ⟨ret_bool (by rw [HB.out]; rfl), d0⟩
  go_wp2_with fail
  refine (within_any va x2 x3 _).mono ?_
  rintro e w' ⟨rfl, rfl⟩
  generalize inB va x2 x3 = c4 at *
  cases c4
  · go_wp2_with fail
    go_ret
    exact ⟨ret_bool (by rw [HB.out]; rfl), d0⟩
  go_wp2_with fail
  refine (within_any ep 0 x4 _).mono ?_
  rintro e w' ⟨rfl, rfl⟩
  generalize inB ep 0 x4 = c5 at *
  go_wp2_with fail
  go_ret
  exact ⟨ret_bool (by rw [HB.out]; rfl), d0⟩
end Go.Proofs.YtcefcglonooelaaGreatDoor

