/-
  Contracts and plain laws, one chapter behind the other.
-/
import Derived.Test.YtchlkdhnjejgnaaM06
namespace Go.Proofs.Ytchlkdhnjejgnaa
open Go.RowKit

set_option linter.unusedVariables false

set_option maxRecDepth 100000


theorem cnt_empty (nm : ByteArray) (sz : Int) (fx : Bool) (ep : Int) (k : Nat) : (⟨nm, sz, [], fx, ep⟩ : Pb).cnt (k : Int) = 0 := by
  show (((List.replicate 16 (-1 : Int)).count (k : Int) : Nat) : Int) = 0
  rw [List.count_replicate, if_neg (by rw [beq_iff_eq]; omega)]
  rfl

theorem cnt_out {s : Sf} (h : ShInv s) (i : Nat) (hi : i < s.bs.length) (k : Nat) (h1 : s.cs.length ≤ k) (h2 : k < 24) : s.bs[i].cnt (k : Int) = 0 := by
  have := cntAll_at s.bs i hi (k : Int)
  have := cnt_nonneg s.bs[i] (k : Int)
  have := h.out k h1 h2
  omega

/-- A book is put in its place. -/
theorem ShInv.put {s : Sf} (h : ShInv s) (i : Nat) (hi : i < s.bs.length) (b : Pb) (hok : b.ok = true) (hn : b.nm = s.bs[i].nm) (cs ps : List Int) (hc : Cells s.cs.length cs ps)
    (hcnt : ∀ k, k < s.cs.length → cs.getD k 0 = s.cs.getD k 0 - s.bs[i].cnt (k : Int) + b.cnt (k : Int)) (hout : ∀ k, s.cs.length ≤ k → k < 24 → b.cnt (k : Int) = 0) : ShInv ⟨cs, ps, s.bs.set i b⟩ := by
  have hl := hc.c
  refine ⟨by simp only; rw [hl]; exact h.n1, by simp only; rw [hl]; exact hc, by simpa using h.few, fun x hx => ?_, ?_, fun k hk => ?_, fun k hk hk2 => ?_⟩
  · rcases List.mem_or_eq_of_mem_set hx with hx | rfl
    · exact h.oks x hx
    · exact hok
  · simp only
    rw [List.map_set, hn]
    have : (s.bs.map Pb.nm).set i s.bs[i].nm = s.bs.map Pb.nm := by
      have e : s.bs[i].nm = (s.bs.map Pb.nm)[i]'(by simpa using hi) := by simp
      rw [e, List.set_getElem_self]
    rw [this]
    exact h.srt
  · simp only at hk ⊢
    rw [hl] at hk
    rw [hcnt k hk, cntAll_set s.bs i hi, h.cnt k hk]
  · simp only at hk ⊢
    rw [hl] at hk
    rw [cntAll_set s.bs i hi, h.out k hk hk2, cnt_out h i hi k hk hk2, hout k hk hk2]
    rfl

/-- A book more. -/
theorem ShInv.insert {s : Sf} (h : ShInv s) (b : Pb) (hok : b.ok = true) (hn : findP s.bs b.nm < 0) (hf : s.bs.length < 6) (cs : List Int) (hc : Cells s.cs.length cs s.ps)
    (hcnt : ∀ k, k < s.cs.length → cs.getD k 0 = s.cs.getD k 0 + b.cnt (k : Int)) (hout : ∀ k, s.cs.length ≤ k → k < 24 → b.cnt (k : Int) = 0) : ShInv ⟨cs, s.ps, insertP s.bs b⟩ := by
  have hl := hc.c
  have hlen : (insertP s.bs b).length = s.bs.length + 1 := by
    unfold insertP
    simp only [List.length_append, List.length_take, List.length_drop, List.length_cons, List.length_nil]
    omega
  refine ⟨by simp only; rw [hl]; exact h.n1, by simp only; rw [hl]; exact hc, by simp only; omega, fun x hx => ?_, ?_, fun k hk => ?_, fun k hk hk2 => ?_⟩
  · simp only [insertP, List.mem_append, List.mem_singleton] at hx
    rcases hx with (hx | rfl) | hx
    · exact h.oks x (List.mem_of_mem_take hx)
    · exact hok
    · exact h.oks x (List.mem_of_mem_drop hx)
  · exact insert_sorted s.bs b h.srt (fun x hx => find_not s.bs b.nm hn x hx)
  · simp only at hk ⊢
    rw [hl] at hk
    rw [hcnt k hk, insertP, cntAll_insert, h.cnt k hk]
  · simp only at hk ⊢
    rw [hl] at hk
    rw [insertP, cntAll_insert, h.out k hk hk2, hout k hk hk2]
    rfl

/-- A book less. -/
theorem ShInv.erase {s : Sf} (h : ShInv s) (i : Nat) (hi : i < s.bs.length) (cs ps : List Int) (hc : Cells s.cs.length cs ps)
    (hcnt : ∀ k, k < s.cs.length → cs.getD k 0 = s.cs.getD k 0 - s.bs[i].cnt (k : Int)) : ShInv ⟨cs, ps, s.bs.take i ++ s.bs.drop (i + 1)⟩ := by
  have hl := hc.c
  have hsub : (s.bs.take i ++ s.bs.drop (i + 1)).Sublist s.bs := by
    have e := List.take_append_drop i s.bs
    have d : (s.bs.drop (i + 1)).Sublist (s.bs.drop i) := by
      rw [List.drop_eq_getElem_cons hi]
      exact List.sublist_cons_self _ _
    have := (List.Sublist.refl (s.bs.take i)).append d
    rwa [e] at this
  refine ⟨by simp only; rw [hl]; exact h.n1, by simp only; rw [hl]; exact hc, Nat.le_trans hsub.length_le h.few, fun x hx => h.oks x (hsub.subset hx), h.srt.sublist (hsub.map _), fun k hk => ?_, fun k hk hk2 => ?_⟩
  · simp only at hk ⊢
    rw [hl] at hk
    rw [hcnt k hk, cntAll_erase s.bs i hi, h.cnt k hk]
  · simp only at hk ⊢
    rw [hl] at hk
    rw [cntAll_erase s.bs i hi, h.out k hk hk2, cnt_out h i hi k hk hk2]
    rfl

theorem cutAt_split (l : List Int) (hl : l.length = 16) (n : Nat) (hn : n ≤ 16) : cutAt l n = l.take n ++ List.replicate (16 - n) (-1) := by
  apply List.ext_getElem?
  intro j
  unfold cutAt
  by_cases hj : j < 16
  · rw [List.getElem?_map, List.getElem?_range hj]
    by_cases h : j < n
    · rw [List.getElem?_append_left (by simp; omega), List.getElem?_take_of_lt h, List.getElem?_eq_getElem (by omega)]
      simp only [Option.map_some]
      rw [if_pos (by omega), getD_of l j (by omega)]
    · rw [List.getElem?_append_right (by simp; omega), List.getElem?_replicate, if_pos (by simp; omega)]
      simp only [Option.map_some]
      rw [if_neg (by omega)]
  · rw [List.getElem?_eq_none (by simp; omega), List.getElem?_eq_none (by simp; omega)]

theorem cutAt_count (l : List Int) (hl : l.length = 16) (n : Nat) (hn : n ≤ 16) (k : Nat) : ((cutAt l n).count (k : Int) : Int) = (l.count (k : Int) : Int) - ((l.drop n).count (k : Int) : Int) := by
  have e : l.count (k : Int) = (l.take n).count (k : Int) + (l.drop n).count (k : Int) := by rw [← List.count_append, List.take_append_drop]
  rw [cutAt_split l hl n hn, List.count_append, List.count_replicate, if_neg (by rw [beq_iff_eq]; omega)]
  omega

theorem set_count (l : List Int) (j : Nat) (hj : j < l.length) (v : Int) (k : Nat) : ((l.set j v).count (k : Int) : Int) = (l.count (k : Int) : Int) - (if l.getD j 0 = (k : Int) then 1 else 0) + (if v = (k : Int) then 1 else 0) := by
  rw [List.count_set hj, getD_of l j hj]
  by_cases h1 : l[j] = (k : Int)
  · have hp : 1 ≤ l.count (k : Int) := by
      have : (k : Int) ∈ l := by rw [← h1]; exact List.getElem_mem hj
      exact List.count_pos_iff.2 this
    rw [if_pos h1, if_pos (by rw [beq_iff_eq]; exact h1)]
    by_cases h2 : v = (k : Int)
    · rw [if_pos h2, if_pos (by rw [beq_iff_eq]; exact h2)]; omega
    · rw [if_neg h2, if_neg (by rw [beq_iff_eq]; exact h2)]; omega
  · rw [if_neg h1, if_neg (by rw [beq_iff_eq]; exact h1)]
    by_cases h2 : v = (k : Int)
    · rw [if_pos h2, if_pos (by rw [beq_iff_eq]; exact h2)]; omega
    · rw [if_neg h2, if_neg (by rw [beq_iff_eq]; exact h2)]; omega

/-- The pages that a book is cut to. -/
theorem cut_pages (rs : List (Int × Int × Int)) (hm : mapOk rs = true) (n : Nat) (hn : n ≤ 16) : mapOk (mapOf (cutAt (pages rs) n)) = true ∧ pages (mapOf (cutAt (pages rs) n)) = cutAt (pages rs) n ∧ endsBy (mapOf (cutAt (pages rs) n)) n = true := by
  have hr := cutAt_range rs hm n
  have h := mapOf_ok (cutAt (pages rs) n) (cutAt_length _ _) hr
  exact ⟨h.1, h.2, ends_of _ (cutAt_length _ _) hr n hn (fun j h1 h2 => by rw [cutAt_get _ _ j h2, if_neg (by omega)]; omega)⟩

theorem set_pages (b : Pb) (hb : b.ok = true) (j : Nat) (hj : (j : Int) < b.sz) (v : Int) (hv : -1 ≤ v ∧ v ≤ 23) : mapOk (mapOf ((pages b.rs).set j v)) = true ∧ pages (mapOf ((pages b.rs).set j v)) = (pages b.rs).set j v ∧ endsBy (mapOf ((pages b.rs).set j v)) b.sz = true := by
  obtain ⟨-, hs, -, hm, he⟩ := book_parts hb
  have hr := set_range b.rs hm j (by omega) v hv
  have hl : ((pages b.rs).set j v).length = 16 := by rw [List.length_set, pages_length]
  have h := mapOf_ok _ hl hr
  obtain ⟨z, hz⟩ := Int.eq_ofNat_of_zero_le (show 0 ≤ b.sz by omega)
  refine ⟨h.1, h.2, ?_⟩
  rw [hz]
  exact ends_of _ hl hr z (by omega) (fun i h1 h2 => by
    rw [getD_set16 _ _ _ _ (by rw [pages_length]; omega), if_neg (by omega), ends_to b.rs b.sz hm he i h2 (by omega)]
    omega)

/-- What cutting leaves. -/
theorem cut_ok {s : Sf} (h : ShInv s) (i : Nat) (hi : i < s.bs.length) (n : Nat) (hn : n ≤ 16) : Cells s.cs.length (cutBook s i n).cs (cutBook s i n).ps ∧ ∀ k, k < s.cs.length → (cutBook s i n).cs.getD k 0 = s.cs.getD k 0 - (((pages s.bs[i].rs).drop n).count (k : Int) : Int) := by
  unfold cutBook
  rw [bookAt_of s.bs i hi]
  simp only
  refine dropAll_ok _ h.cells (fun p hp => ?_) (fun k hk => ?_)
  · by_cases h0 : 0 ≤ p
    · exact (h.page i hi p (List.mem_of_mem_drop hp) h0).1
    · omega
  · have h1 := cnt_le_cs h i hi k hk
    unfold Pb.cnt at h1
    have h2 := (List.drop_sublist n (pages s.bs[i].rs)).count_le (k : Int)
    omega

theorem Cells.same {n : Nat} {cs ps : List Int} (h : Cells n cs ps) (p : Nat) (hp : p < n) (v : Int) (hv : 0 ≤ v ∧ v ≤ 999) (hc : cs.getD p 0 ≠ 0) : Cells n cs (ps.set p v) :=
  ⟨h.c, by simpa using h.p, fun k hk => by
    rw [getD_set ps p k v (by rw [h.p]; exact hp)]
    have := h.val k hk
    by_cases e : p = k
    · subst e; rw [if_pos rfl]; exact ⟨hv.1, hv.2, fun q => absurd q hc⟩
    · rw [if_neg e]; exact this⟩

theorem Cells.took {n : Nat} {cs ps : List Int} (h : Cells n cs ps) (v : Int) (hv : 0 ≤ v ∧ v ≤ 999) (hf : firstFree cs < cs.length) : Cells n (tookC cs) (tookP cs ps v) ∧ ∀ k, k < n → (tookC cs).getD k 0 = cs.getD k 0 + (if tookAt cs = (k : Int) then 1 else 0) := by
  have hc := h.c
  have h0 := firstFree_at cs hf
  unfold tookC tookP tookAt
  rw [if_pos hf, if_pos hf, if_pos hf]
  have g : ∀ k, (cs.set (firstFree cs) 1).getD k 0 = if firstFree cs = k then 1 else cs.getD k 0 := fun k => getD_set cs _ k _ hf
  refine ⟨⟨by simpa using hc, by simpa using h.p, fun k hk => ?_⟩, fun k hk => ?_⟩
  · rw [g, getD_set ps _ k v (by rw [h.p]; omega)]
    have := h.val k hk
    by_cases e : firstFree cs = k
    · rw [if_pos e, if_pos e]; exact ⟨hv.1, hv.2, fun q => by omega⟩
    · rw [if_neg e, if_neg e]; exact this
  · rw [g]
    by_cases e : firstFree cs = k
    · subst e; rw [if_pos rfl, if_pos rfl]; omega
    · rw [if_neg e, if_neg (by omega)]; omega
end Go.Proofs.Ytchlkdhnjejgnaa

namespace Go.Proofs.Ytchlkdhnjejgnaa
open Go.RowKit

set_option linter.unusedVariables false

set_option maxRecDepth 100000


/-- What of an op that is right and not refused the shelf wants. -/
theorem op_parts {o : Oq} (h : opOk o = true) : Nums.nameB o.nm.data.toList = true ∧ (1 ≤ o.k ∧ o.k ≤ 9) ∧ (kOther o.k = true → Nums.nameB o.ot.data.toList = true) ∧ (0 ≤ o.at_ ∧ o.at_ ≤ 255) ∧ (kSize o.k = true → 1 ≤ o.va ∧ o.va ≤ 16) ∧ (o.k = 2 → 0 ≤ o.va ∧ o.va ≤ 999) := by
  simp only [opOk, Bool.and_eq_true, inB_iff] at h
  obtain ⟨⟨⟨⟨⟨⟨⟨⟨h1, h2⟩, h3⟩, h4⟩, h5⟩, h6⟩, h7⟩, h8⟩, h9⟩ := h
  refine ⟨h1, h2, fun q => ?_, h6, fun q => ?_, fun q => ?_⟩
  · rw [q] at h4; simpa using h4
  · unfold valOk at h9; rw [if_pos q, inB_iff] at h9; exact h9
  · unfold valOk at h9
    rw [q] at h9
    simp only [kSize] at h9
    rw [if_neg (by decide), if_pos (by trivial), inB_iff] at h9
    exact h9

theorem refused_parts {bs : List Pb} {o : Oq} (h : refused bs o = 0) : (o.k ≠ 1 → 0 ≤ findP bs o.nm) ∧ (o.k = 1 → findP bs o.nm < 0 ∧ bs.length ≠ 6) ∧ (kOther o.k = true → findP bs o.ot < 0 ∧ (o.k ≠ 1 → bs.length ≠ 6)) ∧ (o.k ≠ 1 → kAt o.k = true → o.at_ < (bookAt bs (findP bs o.nm)).sz) ∧ (o.k = 8 → (bookAt bs (findP bs o.nm)).ep ≠ 1000) := by
  unfold refused at h
  split at h
  · omega
  rename_i h1
  split at h
  · omega
  rename_i h2
  have a1 : o.k ≠ 1 → 0 ≤ findP bs o.nm := fun q => by
    by_cases z : findP bs o.nm < 0
    · exact absurd ⟨q, z⟩ h1
    · omega
  have a3 : kOther o.k = true → findP bs o.ot < 0 := fun q => by
    by_cases z : 0 ≤ findP bs o.ot
    · exact absurd (.inr ⟨q, z⟩) h2
    · omega
  have a2 : o.k = 1 → findP bs o.nm < 0 := fun q => by
    by_cases z : 0 ≤ findP bs o.nm
    · exact absurd (.inl ⟨q, z⟩) h2
    · omega
  split at h
  · rename_i h3
    have a4 : bs.length ≠ 6 := fun q => by rw [if_pos q] at h; omega
    exact ⟨a1, fun q => ⟨a2 q, a4⟩, fun q => ⟨a3 q, fun _ => a4⟩, fun q => absurd h3 q, fun q => by omega⟩
  rename_i h3
  split at h
  · omega
  split at h
  · omega
  split at h
  · omega
  rename_i h6
  split at h
  · omega
  rename_i h7
  split at h
  · omega
  rename_i h8
  exact ⟨a1, fun q => absurd q h3, fun q => ⟨a3 q, fun _ z => h7 ⟨q, z⟩⟩, fun _ q => by
    by_cases z : (bookAt bs (findP bs o.nm)).sz ≤ o.at_
    · exact absurd ⟨q, z⟩ h6
    · omega, fun q z => h8 ⟨q, z⟩⟩

theorem filter_count (rs : List (Int × Int × Int)) (hm : mapOk rs = true) (k : Nat) : (pagesOf rs).count (k : Int) = (pages rs).count (k : Int) := by
  unfold pagesOf
  rw [if_pos hm, List.count_filter (by simp)]

set_option maxHeartbeats 1600000 in
theorem kind_inv {s : Sf} (h : ShInv s) (o : Oq) (ho : opOk o = true) (hk : o.k = 9 ∨ o.k = 8 ∨ o.k = 7 ∨ o.k = 3 ∨ o.k = 2) (i : Nat) (hi : i < s.bs.length) (hat : kAt o.k = true → o.at_ < s.bs[i].sz) (h8 : o.k = 8 → s.bs[i].ep ≠ 1000) (page : Int) (hpg : page = if o.at_ < 16 then (pages s.bs[i].rs).getD o.at_.toNat 0 else -1) : ShInv (doKind s o i s.bs[i] page).1 := by
  obtain ⟨-, -, -, ha, hs7, hw2⟩ := op_parts ho
  have hbo := h.oks _ (List.getElem_mem hi)
  obtain ⟨b1, b2, b3, b4, b5⟩ := book_parts hbo
  unfold doKind
  rcases hk with q | q | q | q | q
  · rw [if_pos q]; exact h
  · rw [if_neg (by omega), if_pos q]
    refine h.put i hi { s.bs[i] with ep := s.bs[i].ep + 1 } (book_mk (b := { s.bs[i] with ep := s.bs[i].ep + 1 }) b1 b2 (by have := h8 q; simp only; omega) b4 b5) rfl s.cs s.ps h.cells (fun k hk => ?_) (fun k h1 h2 => cnt_out h i hi k h1 h2)
    show s.cs.getD k 0 = s.cs.getD k 0 - s.bs[i].cnt (k : Int) + s.bs[i].cnt (k : Int)
    omega
  · rw [if_neg (by omega), if_neg (by omega), if_pos q]
    have hv := hs7 (by rw [q]; decide)
    obtain ⟨n, hn⟩ := Int.eq_ofNat_of_zero_le (show 0 ≤ o.va by omega)
    obtain ⟨c1, c2⟩ := cut_ok h i hi o.va.toNat (by omega)
    have p1 := cut_pages s.bs[i].rs b4 o.va.toNat (by omega)
    have hset : (cutBook s i o.va.toNat).bs = s.bs.set i { s.bs[i] with rs := mapOf (cutAt (pages s.bs[i].rs) (o.va.toNat : Nat)) } := by
      unfold cutBook
      rw [bookAt_of s.bs i hi]
    have hbk : bookAt (cutBook s i o.va.toNat).bs i = { s.bs[i] with rs := mapOf (cutAt (pages s.bs[i].rs) (o.va.toNat : Nat)) } := by
      rw [hset, bookAt_of _ i (by simpa using hi), List.getElem_set_self]
    rw [hbk, hset, List.set_set]
    refine h.put i hi { s.bs[i] with rs := mapOf (cutAt (pages s.bs[i].rs) (o.va.toNat : Nat)), sz := o.va } (book_mk (b := { s.bs[i] with rs := mapOf (cutAt (pages s.bs[i].rs) (o.va.toNat : Nat)), sz := o.va }) b1 hv b3 p1.1 (by simp only; rw [show o.va = ((o.va.toNat : Nat) : Int) by omega]; exact p1.2.2)) rfl _ _ c1 (fun k hk => ?_) (fun k h1 h2 => ?_)
    · rw [c2 k hk]
      show _ = s.cs.getD k 0 - ((pages s.bs[i].rs).count (k : Int) : Int) + ((pages (mapOf (cutAt (pages s.bs[i].rs) (o.va.toNat : Nat)))).count (k : Int) : Int)
      rw [p1.2.1, cutAt_count _ (pages_length _) _ (by omega)]
      omega
    · show ((pages (mapOf (cutAt (pages s.bs[i].rs) (o.va.toNat : Nat)))).count (k : Int) : Int) = 0
      rw [p1.2.1, cutAt_count _ (pages_length _) _ (by omega)]
      have := cnt_out h i hi k h1 h2
      unfold Pb.cnt at this
      have := (List.drop_sublist o.va.toNat (pages s.bs[i].rs)).count_le (k : Int)
      omega
  · rw [if_neg (by omega), if_neg (by omega), if_neg (by omega), if_pos q]
    have hlt := hat (by rw [q]; decide)
    rw [if_pos (by omega)] at hpg
    split
    · rename_i h0
      obtain ⟨j, hj⟩ := Int.eq_ofNat_of_zero_le ha.1
      have hjt : o.at_.toNat = j := by omega
      rw [hjt] at hpg ⊢
      have hmem : page ∈ pages s.bs[i].rs := (mem_getD _ (pages_length _) _).2 ⟨j, by omega, hpg.symm⟩
      obtain ⟨g1, g2⟩ := h.page i hi page hmem h0
      obtain ⟨m, rfl⟩ := Int.eq_ofNat_of_zero_le h0
      rw [Int.toNat_natCast] at g2
      obtain ⟨c1, c2⟩ := dropOne_ok h.cells m (by omega) g2
      have p1 := set_pages s.bs[i] hbo j (by omega) (-1) (by omega)
      refine h.put i hi { s.bs[i] with rs := mapOf ((pages s.bs[i].rs).set j (-1)) } (book_mk (b := { s.bs[i] with rs := mapOf ((pages s.bs[i].rs).set j (-1)) }) b1 b2 b3 p1.1 p1.2.2) rfl _ _ c1 (fun k hk => ?_) (fun k h1 h2 => ?_)
      · rw [c2]
        show _ = s.cs.getD k 0 - ((pages s.bs[i].rs).count (k : Int) : Int) + ((pages (mapOf ((pages s.bs[i].rs).set j (-1)))).count (k : Int) : Int)
        rw [p1.2.1, set_count _ j (by rw [pages_length]; omega), ← hpg, if_neg (show ¬ (-1 : Int) = (k : Int) by omega)]
        by_cases e : m = k
        · subst e; rw [if_pos rfl, if_pos rfl]; omega
        · rw [if_neg e, if_neg (by omega)]; omega
      · show ((pages (mapOf ((pages s.bs[i].rs).set j (-1)))).count (k : Int) : Int) = 0
        rw [p1.2.1, set_count _ j (by rw [pages_length]; omega), ← hpg, if_neg (show ¬ (-1 : Int) = (k : Int) by omega), if_neg (by omega)]
        have := cnt_out h i hi k h1 h2
        unfold Pb.cnt at this
        omega
    · exact h
  · rw [if_neg (by omega), if_neg (by omega), if_neg (by omega), if_neg (by omega)]
    have hlt := hat (by rw [q]; decide)
    have hv := hw2 q
    rw [if_pos (by omega)] at hpg
    obtain ⟨j, hj⟩ := Int.eq_ofNat_of_zero_le ha.1
    have hjt : o.at_.toNat = j := by omega
    unfold doWrite
    rw [hjt] at hpg ⊢
    split
    · rename_i h0
      obtain ⟨m, rfl⟩ := Int.eq_ofNat_of_zero_le h0.1
      have hmem : (m : Int) ∈ pages s.bs[i].rs := (mem_getD _ (pages_length _) _).2 ⟨j, by omega, hpg.symm⟩
      obtain ⟨g1, g2⟩ := h.page i hi _ hmem h0.1
      rw [Int.toNat_natCast] at h0 g2 ⊢
      exact ⟨h.n1, h.cells.same m (by omega) o.va hv (by omega), h.few, h.oks, h.srt, h.cnt, h.out⟩
    · rename_i h0
      split
      · rename_i hf
        obtain ⟨t1, t2⟩ := h.cells.took o.va hv hf
        have htk : tookAt s.cs = (firstFree s.cs : Int) := by unfold tookAt; rw [if_pos hf]
        have hn24 := h.n1.2
        have p1 := set_pages s.bs[i] hbo j (by omega) (tookAt s.cs) (by omega)
        have hfc : s.cs.getD (firstFree s.cs) 0 = 0 := firstFree_at s.cs hf
        by_cases hp : 0 ≤ page
        · have hmem : page ∈ pages s.bs[i].rs := (mem_getD _ (pages_length _) _).2 ⟨j, by omega, hpg.symm⟩
          obtain ⟨g1, g2⟩ := h.page i hi page hmem hp
          obtain ⟨m, rfl⟩ := Int.eq_ofNat_of_zero_le hp
          rw [Int.toNat_natCast] at g2
          have hmf : firstFree s.cs ≠ m := fun e => by rw [e] at hfc; omega
          have t3 := t2 m (by omega)
          rw [if_neg (by omega)] at t3
          obtain ⟨c1, c2⟩ := dropOne_ok t1 m (by omega) (by omega)
          refine h.put i hi { s.bs[i] with rs := mapOf ((pages s.bs[i].rs).set j (tookAt s.cs)) } (book_mk (b := { s.bs[i] with rs := mapOf ((pages s.bs[i].rs).set j (tookAt s.cs)) }) b1 b2 b3 p1.1 p1.2.2) rfl _ _ c1 (fun k hk => ?_) (fun k h1 h2 => ?_)
          · rw [c2]
            show _ = s.cs.getD k 0 - ((pages s.bs[i].rs).count (k : Int) : Int) + ((pages (mapOf ((pages s.bs[i].rs).set j (tookAt s.cs)))).count (k : Int) : Int)
            rw [p1.2.1, set_count _ j (by rw [pages_length]; omega), ← hpg, t2 k hk]
            by_cases e : m = k
            · subst e; rw [if_pos rfl, if_pos rfl]; omega
            · rw [if_neg e, if_neg (show ¬ (m : Int) = (k : Int) by omega)]; omega
          · show ((pages (mapOf ((pages s.bs[i].rs).set j (tookAt s.cs)))).count (k : Int) : Int) = 0
            rw [p1.2.1, set_count _ j (by rw [pages_length]; omega), ← hpg, if_neg (by omega), if_neg (by omega)]
            have := cnt_out h i hi k h1 h2
            unfold Pb.cnt at this
            omega
        · have hd : dropOne (tookC s.cs, tookP s.cs s.ps o.va) page = (tookC s.cs, tookP s.cs s.ps o.va) := by rw [dropOne, if_neg hp]
          rw [hd]
          refine h.put i hi { s.bs[i] with rs := mapOf ((pages s.bs[i].rs).set j (tookAt s.cs)) } (book_mk (b := { s.bs[i] with rs := mapOf ((pages s.bs[i].rs).set j (tookAt s.cs)) }) b1 b2 b3 p1.1 p1.2.2) rfl _ _ t1 (fun k hk => ?_) (fun k h1 h2 => ?_)
          · show _ = s.cs.getD k 0 - ((pages s.bs[i].rs).count (k : Int) : Int) + ((pages (mapOf ((pages s.bs[i].rs).set j (tookAt s.cs)))).count (k : Int) : Int)
            rw [p1.2.1, set_count _ j (by rw [pages_length]; omega), ← hpg, t2 k hk, if_neg (show ¬ page = (k : Int) by omega)]
            omega
          · show ((pages (mapOf ((pages s.bs[i].rs).set j (tookAt s.cs)))).count (k : Int) : Int) = 0
            rw [p1.2.1, set_count _ j (by rw [pages_length]; omega), ← hpg, if_neg (show ¬ page = (k : Int) by omega), if_neg (by omega)]
            have := cnt_out h i hi k h1 h2
            unfold Pb.cnt at this
            omega
      · exact h

theorem do_inv {s : Sf} (h : ShInv s) (o : Oq) : ShInv (doOp s o).1 := by
  unfold doOp
  split
  · exact h
  rename_i ho
  have ho : opOk o = true := by simpa using ho
  split
  · exact h
  rename_i hr
  have hr : refused s.bs o = 0 := by simpa using hr
  obtain ⟨r1, r2, r3, r4, r5⟩ := refused_parts hr
  obtain ⟨n1, n2, n3, n4, n5, n6⟩ := op_parts ho
  split
  · rename_i q
    obtain ⟨q1, q2⟩ := r2 q
    have hf := h.few
    refine h.insert ⟨o.nm, o.va, [], false, 0⟩ (book_mk (b := ⟨o.nm, o.va, [], false, 0⟩) n1 (n5 (by rw [q]; decide)) (by simp only; omega) rfl rfl) q1 (by omega) s.cs h.cells (fun k hk => ?_) (fun k h1 h2 => cnt_empty _ _ _ _ _)
    rw [cnt_empty]
    omega
  rename_i q1
  have hfi := r1 q1
  obtain ⟨i, hi, hfe, hnm⟩ := find_in s.bs o.nm (by omega)
  rw [hfe] at r4 r5 ⊢
  rw [bookAt_of s.bs i hi] at r4 r5 ⊢
  rw [Int.toNat_natCast]
  split
  · rename_i q6
    obtain ⟨c1, c2⟩ := cut_ok h i hi 0 (by omega)
    exact h.erase i hi _ _ c1 (fun k hk => by rw [c2 k hk, List.drop_zero]; rfl)
  rename_i q6
  split
  · rename_i q5
    obtain ⟨t1, t2⟩ := r3 q5
    obtain ⟨b1, b2, b3, b4, b5⟩ := book_parts (h.oks _ (List.getElem_mem hi))
    have hf := h.few
    have ht2 := t2 q1
    have hpm : ∀ p ∈ pagesOf s.bs[i].rs, 0 ≤ p ∧ p ∈ pages s.bs[i].rs := fun p hp => by
      unfold pagesOf at hp
      rw [if_pos b4, List.mem_filter, decide_eq_true_eq] at hp
      exact ⟨hp.2, hp.1⟩
    obtain ⟨c1, c2⟩ := shareAll_ok (pagesOf s.bs[i].rs) h.cells (fun p hp => ⟨(hpm p hp).1, (h.page i hi p (hpm p hp).2 (hpm p hp).1).1⟩) (fun p hp => (h.page i hi p (hpm p hp).2 (hpm p hp).1).2)
    refine h.insert ⟨o.ot, s.bs[i].sz, s.bs[i].rs, decide (o.k = 4), 0⟩ (book_mk (b := ⟨o.ot, s.bs[i].sz, s.bs[i].rs, decide (o.k = 4), 0⟩) (n3 q5) b2 (by simp only; omega) b4 b5) t1 (by omega) _ c1 (fun k hk => ?_) (fun k h1 h2 => cnt_out h i hi k h1 h2)
    rw [c2 k hk, filter_count _ b4]
    rfl
  rename_i q5
  have hk : o.k = 9 ∨ o.k = 8 ∨ o.k = 7 ∨ o.k = 3 ∨ o.k = 2 := by
    have : ¬ (o.k = 4 ∨ o.k = 5) := fun z => q5 (by unfold kOther; rcases z with z | z <;> simp [z])
    omega
  exact kind_inv h o ho hk i hi (r4 q1) r5 _ rfl
end Go.Proofs.Ytchlkdhnjejgnaa

namespace Go.Proofs.Ytchlkdhnjejgnaa
open Go.RowKit

set_option linter.unusedVariables false

set_option maxRecDepth 100000

/-! ### Books are found -/
theorem find_mem {bs : List Pb} (hs : (bs.map Pb.nm).Pairwise (fun a b => ltB a b = true)) (b : Pb) (hb : b ∈ bs) : 0 ≤ findP bs b.nm ∧ bookAt bs (findP bs b.nm) = b := by
  have h0 : ¬ findP bs b.nm < 0 := fun h => find_not bs b.nm h b hb rfl
  obtain ⟨i, hi, e, hn⟩ := find_in bs b.nm h0
  refine ⟨by omega, ?_⟩
  rw [e, bookAt_of bs i hi]
  obtain ⟨j, hj, rfl⟩ := List.getElem_of_mem hb
  rcases Nat.lt_trichotomy i j with h | h | h
  · have := List.pairwise_iff_getElem.1 hs i j (by simpa using hi) (by simpa using hj) h
    simp only [List.getElem_map] at this
    rw [hn, ltB_irrefl] at this
    cases this
  · subst h; rfl
  · have := List.pairwise_iff_getElem.1 hs j i (by simpa using hj) (by simpa using hi) h
    simp only [List.getElem_map] at this
    rw [hn, ltB_irrefl] at this
    cases this

/-! ### Spare pages -/
theorem zeros_range (cs : List Int) : zeros cs = (List.range cs.length).countP (fun k => decide (cs.getD k 0 = 0)) := by
  have e : cs = (List.range cs.length).map (fun k => cs.getD k 0) := by
    apply List.ext_getElem (by simp)
    intro k h1 h2
    rw [List.getElem_map, List.getElem_range, getD_of cs k h1]
  unfold zeros
  conv => lhs; rw [e]
  rw [List.countP_map]
  rfl

theorem zeros_le_of (cs cs' : List Int) (hl : cs'.length = cs.length) (h : ∀ k, k < cs.length → cs.getD k 0 = 0 → cs'.getD k 0 = 0) : zeros cs ≤ zeros cs' := by
  rw [zeros_range, zeros_range, hl]
  refine List.countP_mono_left (fun k hk q => ?_)
  rw [decide_eq_true_eq] at q ⊢
  exact h k (List.mem_range.1 hk) q

theorem zeros_eq_of (cs cs' : List Int) (hl : cs'.length = cs.length) (h : ∀ k, k < cs.length → (cs.getD k 0 = 0 ↔ cs'.getD k 0 = 0)) : zeros cs' = zeros cs := by
  have h1 := zeros_le_of cs cs' hl (fun k hk q => (h k hk).1 q)
  have h2 := zeros_le_of cs' cs hl.symm (fun k hk q => (h k (by omega)).2 q)
  omega
end Go.Proofs.Ytchlkdhnjejgnaa

namespace Go.Proofs.Ytchlkdhnjejgnaa
open Go.RowKit

set_option linter.unusedVariables false

set_option maxRecDepth 100000


theorem insertAt_eq (bs : List Pb) (n : ByteArray) (q : Nat) (hq : q ≤ bs.length) (h1 : ∀ j (hj : j < bs.length), j < q → ltB bs[j].nm n = true) (h2 : ∀ h : q < bs.length, ltB bs[q].nm n = false) : insertAt bs n = q := by
  unfold insertAt
  induction bs generalizing q with
  | nil => simp at hq; simp [hq]
  | cons b t ih =>
    cases q with
    | zero =>
      have := h2 (by simp)
      simp only [List.getElem_cons_zero] at this
      rw [List.takeWhile_cons, this]
      rfl
    | succ q =>
      have h0 := h1 0 (by simp) (by omega)
      simp only [List.getElem_cons_zero] at h0
      rw [List.takeWhile_cons, h0]
      simp only [if_true, List.length_cons]
      have := ih q (by simpa using hq) (fun j hj hl => by have := h1 (j + 1) (by simpa using hj) (by omega); simpa using this) (fun h => by have := h2 (by simpa using h); simpa using this)
      omega

theorem insertAt_le (bs : List Pb) (n : ByteArray) : insertAt bs n ≤ bs.length := by
  unfold insertAt
  exact (List.takeWhile_sublist _).length_le

theorem take_getD (l : List Int) (a m : Nat) (h : a + m < l.length) : (l.drop a).take (m + 1) = (l.drop a).take m ++ [l.getD (a + m) 0] := by
  have h' : m < (l.drop a).length := by rw [List.length_drop]; omega
  rw [List.take_succ_eq_append_getElem h', getD_of l (a + m) h, List.getElem_drop]

theorem dropAll_step (s : List Int × List Int) (l : List Int) (a m : Nat) (h : a + m < l.length) : dropAll s ((l.drop a).take (m + 1)) = dropOne (dropAll s ((l.drop a).take m)) (l.getD (a + m) 0) := by
  rw [take_getD l a m h, dropAll, dropAll, List.foldl_append]
  rfl

theorem shareAll_step (cs : List Int) (l : List Int) (m : Nat) (h : m < l.length) : shareAll cs (l.take (m + 1)) = (shareAll cs (l.take m)).set l[m].toNat ((shareAll cs (l.take m)).getD l[m].toNat 0 + 1) := by
  rw [List.take_succ_eq_append_getElem h, shareAll, shareAll, List.foldl_append]
  rfl

theorem count_part (l : List Int) (a m : Nat) (p : Int) : ((l.drop a).take m).count p ≤ l.count p :=
  ((List.take_sublist _ _).trans (List.drop_sublist _ _)).count_le p

/-- The pool in the midst of a cut: what is dropped next is there. -/
theorem cut_next {s : Sf} (h : ShInv s) (i : Nat) (hi : i < s.bs.length) (a m : Nat) (hm : a + m < 16) :
    Cells s.cs.length (dropAll (s.cs, s.ps) (((pages s.bs[i].rs).drop a).take m)).1 (dropAll (s.cs, s.ps) (((pages s.bs[i].rs).drop a).take m)).2 ∧
    (0 ≤ (pages s.bs[i].rs).getD (a + m) 0 → ((pages s.bs[i].rs).getD (a + m) 0).toNat < s.cs.length ∧ 1 ≤ (dropAll (s.cs, s.ps) (((pages s.bs[i].rs).drop a).take m)).1.getD ((pages s.bs[i].rs).getD (a + m) 0).toNat 0 ∧ (dropAll (s.cs, s.ps) (((pages s.bs[i].rs).drop a).take m)).1.getD ((pages s.bs[i].rs).getD (a + m) 0).toNat 0 ≤ 400) := by
  have hl := pages_length s.bs[i].rs
  have hin : ∀ p ∈ ((pages s.bs[i].rs).drop a).take m, p < (s.cs.length : Int) := fun p hp => by
    have hp' : p ∈ pages s.bs[i].rs := List.mem_of_mem_drop (List.mem_of_mem_take hp)
    by_cases h0 : 0 ≤ p
    · exact (h.page i hi p hp' h0).1
    · omega
  have hcn : ∀ k, k < s.cs.length → ((((pages s.bs[i].rs).drop a).take m).count (k : Int) : Int) ≤ s.cs.getD k 0 := fun k hk => by
    have h1 := cnt_le_cs h i hi k hk
    have h2 := count_part (pages s.bs[i].rs) a m (k : Int)
    unfold Pb.cnt at h1
    omega
  obtain ⟨h1, h2⟩ := dropAll_ok _ h.cells hin hcn
  refine ⟨h1, fun h0 => ?_⟩
  obtain ⟨k, hk⟩ := Int.eq_ofNat_of_zero_le h0
  have hp' : (k : Int) ∈ pages s.bs[i].rs := by rw [← hk]; exact (mem_getD _ hl _).2 ⟨a + m, hm, rfl⟩
  have hkn := (h.page i hi _ hp' (by omega)).1
  have hkn' : k < s.cs.length := by omega
  rw [hk, Int.toNat_natCast]
  rw [h2 k hkn']
  have hc1 := cnt_le_cs h i hi k hkn'
  have hc2 := count_part (pages s.bs[i].rs) a (m + 1) (k : Int)
  rw [take_getD _ a m (by omega), hk, List.count_append, List.count_singleton_self] at hc2
  have hc3 := h.cnt k hkn'
  have hc4 := cntAll_le s.bs (k : Int)
  have hc5 := h.few
  unfold Pb.cnt at hc1
  refine ⟨hkn', by omega, by omega⟩

theorem cut_done {s : Sf} (i : Nat) (hi : i < s.bs.length) (a m : Nat) (h : 16 ≤ a + m) : dropAll (s.cs, s.ps) (((pages s.bs[i].rs).drop a).take m) = dropAll (s.cs, s.ps) ((pages s.bs[i].rs).drop a) := by
  rw [List.take_of_length_le (by rw [List.length_drop, pages_length]; omega)]

/-- The pool in the midst of a copy: what is shared next is there. -/
theorem share_next {s : Sf} (h : ShInv s) (i : Nat) (hi : i < s.bs.length) (q : Nat) :
    (shareAll s.cs ((pagesOf s.bs[i].rs).take q)).length = s.cs.length ∧
    ∀ hq : q < (pagesOf s.bs[i].rs).length, 0 ≤ (pagesOf s.bs[i].rs)[q] ∧ (pagesOf s.bs[i].rs)[q].toNat < s.cs.length ∧ (0 ≤ (shareAll s.cs ((pagesOf s.bs[i].rs).take q)).getD (pagesOf s.bs[i].rs)[q].toNat 0 ∧ (shareAll s.cs ((pagesOf s.bs[i].rs).take q)).getD (pagesOf s.bs[i].rs)[q].toNat 0 ≤ 400) := by
  have hm := (book_parts (h.oks _ (List.getElem_mem hi))).2.2.2.1
  have hsub : ∀ p ∈ pagesOf s.bs[i].rs, 0 ≤ p ∧ p ∈ pages s.bs[i].rs := fun p hp => by
    rw [pagesOf, if_pos hm, List.mem_filter, decide_eq_true_eq] at hp
    exact ⟨hp.2, hp.1⟩
  have hlen : (pagesOf s.bs[i].rs).length ≤ 16 := by
    rw [pagesOf, if_pos hm]
    have := List.length_filter_le (fun p => decide (0 ≤ p)) (pages s.bs[i].rs)
    rw [pages_length] at this
    exact this
  have h1 : ∀ p ∈ (pagesOf s.bs[i].rs).take q, 0 ≤ p ∧ p < (s.cs.length : Int) := fun p hp => by
    obtain ⟨a, b⟩ := hsub p (List.mem_of_mem_take hp)
    exact ⟨a, (h.page i hi p b a).1⟩
  have h2 : ∀ p ∈ (pagesOf s.bs[i].rs).take q, 1 ≤ s.cs.getD p.toNat 0 := fun p hp => by
    obtain ⟨a, b⟩ := hsub p (List.mem_of_mem_take hp)
    exact (h.page i hi p b a).2
  obtain ⟨c1, c2⟩ := shareAll_ok _ h.cells h1 h2
  refine ⟨c1.c, fun hq => ?_⟩
  obtain ⟨a, b⟩ := hsub _ (List.getElem_mem hq)
  obtain ⟨d, e⟩ := h.page i hi _ b a
  have hlt : (pagesOf s.bs[i].rs)[q].toNat < s.cs.length := by omega
  refine ⟨a, hlt, ?_⟩
  have h3 := c2 _ hlt
  have h4 := h.cnt _ hlt
  have h5 := cntAll_le s.bs ((pagesOf s.bs[i].rs)[q].toNat : Int)
  have h6 := cntAll_nonneg s.bs ((pagesOf s.bs[i].rs)[q].toNat : Int)
  have h7 := h.few
  have h8 : ((pagesOf s.bs[i].rs).take q).count (((pagesOf s.bs[i].rs)[q].toNat : Nat) : Int) ≤ 16 := by
    have h := List.count_le_length (a := (((pagesOf s.bs[i].rs)[q].toNat : Nat) : Int)) (l := (pagesOf s.bs[i].rs).take q)
    rw [List.length_take] at h
    omega
  omega
end Go.Proofs.Ytchlkdhnjejgnaa

