/-
  Contracts and plain laws, one chapter behind the other.
-/
import Derived.Laws.MakeOwn
import Derived.Test.YtcefcglonooelaaGreatDoorB01
import Derived.Test.YtcefcglonooelaaGreatDoorB02
import Derived.Test.YtcefcglonooelaaGreatDoorB04
import Derived.Test.YtcefcglonooelaaGreatDoorB06
namespace Go.Proofs.YtcefcglonooelaaGreatDoor
open Go.RowKit

set_option linter.unusedVariables false

set_option maxRecDepth 100000


theorem cnt_empty (nm : ByteArray) (sz : Int) (fx : Bool) (ep : Int) (k : Nat) : (⟨nm, sz, [], fx, ep⟩ : Pb).cnt (k : Int) = 0 := by
  show (((List.replicate 16 (-1 : Int)).count (k : Int) : Nat) : Int) = 0
  rw [List.count_replicate, if_neg (by rw [beq_iff_eq]; omega)]
  rfl

theorem cnt_out {s : Sf} (h : ShInv s) (i : Nat) (hi : i < s.bs.length) (k : Nat) (h1 : s.cs.length ≤ k) (h2 : k < 24) : s.bs[i].cnt (k : Int) = 0 := by
  have := cntAll_at s.bs i hi (k : Int)
  have := cnt_nonneg s.bs[i] (k : Int)
  have := h.out k h1 h2
  omega

/-- A book is put in its place. -/
theorem ShInv.put {s : Sf} (h : ShInv s) (i : Nat) (hi : i < s.bs.length) (b : Pb) (hok : b.ok = true) (hn : b.nm = s.bs[i].nm) (cs ps : List Int) (hc : Cells s.cs.length cs ps)
    (hcnt : ∀ k, k < s.cs.length → cs.getD k 0 = s.cs.getD k 0 - s.bs[i].cnt (k : Int) + b.cnt (k : Int)) (hout : ∀ k, s.cs.length ≤ k → k < 24 → b.cnt (k : Int) = 0) : ShInv ⟨cs, ps, s.bs.set i b⟩ := by
  have hl := hc.c
  refine ⟨by simp only; rw [hl]; exact h.n1, by simp only; rw [hl]; exact hc, by simpa using h.few, fun x hx => ?_, ?_, fun k hk => ?_, fun k hk hk2 => ?_⟩
  · rcases List.mem_or_eq_of_mem_set hx with hx | rfl
    · exact h.oks x hx
    · exact hok
  · simp only
    rw [List.map_set, hn]
    have : (s.bs.map Pb.nm).set i s.bs[i].nm = s.bs.map Pb.nm := by
      have e : s.bs[i].nm = (s.bs.map Pb.nm)[i]'(by simpa using hi) := by simp
      rw [e, List.set_getElem_self]
    rw [this]
    exact h.srt
  · simp only at hk ⊢
    rw [hl] at hk
    rw [hcnt k hk, cntAll_set s.bs i hi, h.cnt k hk]
  · simp only at hk ⊢
    rw [hl] at hk
    rw [cntAll_set s.bs i hi, h.out k hk hk2, cnt_out h i hi k hk hk2, hout k hk hk2]
    rfl

/-- A book more. -/
theorem ShInv.insert {s : Sf} (h : ShInv s) (b : Pb) (hok : b.ok = true) (hn : findP s.bs b.nm < 0) (hf : s.bs.length < 6) (cs : List Int) (hc : Cells s.cs.length cs s.ps)
    (hcnt : ∀ k, k < s.cs.length → cs.getD k 0 = s.cs.getD k 0 + b.cnt (k : Int)) (hout : ∀ k, s.cs.length ≤ k → k < 24 → b.cnt (k : Int) = 0) : ShInv ⟨cs, s.ps, insertP s.bs b⟩ := by
  have hl := hc.c
  have hlen : (insertP s.bs b).length = s.bs.length + 1 := by
    unfold insertP
    simp only [List.length_append, List.length_take, List.length_drop, List.length_cons, List.length_nil]
    omega
  refine ⟨by simp only; rw [hl]; exact h.n1, by simp only; rw [hl]; exact hc, by simp only; omega, fun x hx => ?_, ?_, fun k hk => ?_, fun k hk hk2 => ?_⟩
  · simp only [insertP, List.mem_append, List.mem_singleton] at hx
    rcases hx with (hx | rfl) | hx
    · exact h.oks x (List.mem_of_mem_take hx)
    · exact hok
    · exact h.oks x (List.mem_of_mem_drop hx)
  · exact insert_sorted s.bs b h.srt (fun x hx => find_not s.bs b.nm hn x hx)
  · simp only at hk ⊢
    rw [hl] at hk
    rw [hcnt k hk, insertP, cntAll_insert, h.cnt k hk]
  · simp only at hk ⊢
    rw [hl] at hk
    rw [insertP, cntAll_insert, h.out k hk hk2, hout k hk hk2]
    rfl

/-- A book less. -/
theorem ShInv.erase {s : Sf} (h : ShInv s) (i : Nat) (hi : i < s.bs.length) (cs ps : List Int) (hc : Cells s.cs.length cs ps)
    (hcnt : ∀ k, k < s.cs.length → cs.getD k 0 = s.cs.getD k 0 - s.bs[i].cnt (k : Int)) : ShInv ⟨cs, ps, s.bs.take i ++ s.bs.drop (i + 1)⟩ := by
  have hl := hc.c
  have hsub : (s.bs.take i ++ s.bs.drop (i + 1)).Sublist s.bs := by
    have e := List.take_append_drop i s.bs
    have d : (s.bs.drop (i + 1)).Sublist (s.bs.drop i) := by
      rw [List.drop_eq_getElem_cons hi]
      exact List.sublist_cons_self _ _
    have := (List.Sublist.refl (s.bs.take i)).append d
    rwa [e] at this
  refine ⟨by simp only; rw [hl]; exact h.n1, by simp only; rw [hl]; exact hc, Nat.le_trans hsub.length_le h.few, fun x hx => h.oks x (hsub.subset hx), h.srt.sublist (hsub.map _), fun k hk => ?_, fun k hk hk2 => ?_⟩
  · simp only at hk ⊢
    rw [hl] at hk
    rw [hcnt k hk, cntAll_erase s.bs i hi, h.cnt k hk]
  · simp only at hk ⊢
    rw [hl] at hk
    rw [cntAll_erase s.bs i hi, h.out k hk hk2, cnt_out h i hi k hk hk2]
    rfl

theorem cutAt_split (l : List Int) (hl : l.length = 16) (n : Nat) (hn : n ≤ 16) : cutAt l n = l.take n ++ List.replicate (16 - n) (-1) := by
  apply List.ext_getElem?
  intro j
  unfold cutAt
  by_cases hj : j < 16
  · rw [List.getElem?_map, List.getElem?_range hj]
    by_cases h : j < n
    · rw [List.getElem?_append_left (by simp; omega), List.getElem?_take_of_lt h, List.getElem?_eq_getElem (by omega)]
      simp only [Option.map_some]
      rw [if_pos (by omega), getD_of l j (by omega)]
    · rw [List.getElem?_append_right (by simp; omega), List.getElem?_replicate, if_pos (by simp; omega)]
      simp only [Option.map_some]
      rw [if_neg (by omega)]
  · rw [List.getElem?_eq_none (by simp; omega), List.getElem?_eq_none (by simp; omega)]

theorem cutAt_count (l : List Int) (hl : l.length = 16) (n : Nat) (hn : n ≤ 16) (k : Nat) : ((cutAt l n).count (k : Int) : Int) = (l.count (k : Int) : Int) - ((l.drop n).count (k : Int) : Int) := by
  have e : l.count (k : Int) = (l.take n).count (k : Int) + (l.drop n).count (k : Int) := by rw [← List.count_append, List.take_append_drop]
  rw [cutAt_split l hl n hn, List.count_append, List.count_replicate, if_neg (by rw [beq_iff_eq]; omega)]
  omega

theorem set_count (l : List Int) (j : Nat) (hj : j < l.length) (v : Int) (k : Nat) : ((l.set j v).count (k : Int) : Int) = (l.count (k : Int) : Int) - (if l.getD j 0 = (k : Int) then 1 else 0) + (if v = (k : Int) then 1 else 0) := by
  rw [List.count_set hj, getD_of l j hj]
  by_cases h1 : l[j] = (k : Int)
  · have hp : 1 ≤ l.count (k : Int) := by
      have : (k : Int) ∈ l := by rw [← h1]; exact List.getElem_mem hj
      exact List.count_pos_iff.2 this
    rw [if_pos h1, if_pos (by rw [beq_iff_eq]; exact h1)]
    by_cases h2 : v = (k : Int)
    · rw [if_pos h2, if_pos (by rw [beq_iff_eq]; exact h2)]; omega
    · rw [if_neg h2, if_neg (by rw [beq_iff_eq]; exact h2)]; omega
  · rw [if_neg h1, if_neg (by rw [beq_iff_eq]; exact h1)]
    by_cases h2 : v = (k : Int)
    · rw [if_pos h2, if_pos (by rw [beq_iff_eq]; exact h2)]; omega
    · rw [if_neg h2, if_neg (by rw [beq_iff_eq]; exact h2)]; omega

/-- The pages that a book is cut to. -/
theorem cut_pages (rs : List (Int × Int × Int)) (hm : mapOk rs = true) (n : Nat) (hn : n ≤ 16) : mapOk (mapOf (cutAt (pages rs) n)) = true ∧ pages (mapOf (cutAt (pages rs) n)) = cutAt (pages rs) n ∧ endsBy (mapOf (cutAt (pages rs) n)) n = true := by
  have hr := cutAt_range rs hm n
  have h := mapOf_ok (cutAt (pages rs) n) (cutAt_length _ _) hr
  exact ⟨h.1, h.2, ends_of _ (cutAt_length _ _) hr n hn (fun j h1 h2 => by rw [cutAt_get _ _ j h2, if_neg (by omega)]; omega)⟩

theorem set_pages (b : Pb) (hb : b.ok = true) (j : Nat) (hj : (j : Int) < b.sz) (v : Int) (hv : -1 ≤ v ∧ v ≤ 23) : mapOk (mapOf ((pages b.rs).set j v)) = true ∧ pages (mapOf ((pages b.rs).set j v)) = (pages b.rs).set j v ∧ endsBy (mapOf ((pages b.rs).set j v)) b.sz = true := by
  obtain ⟨-, hs, -, hm, he⟩ := book_parts hb
  have hr := set_range b.rs hm j (by omega) v hv
  have hl : ((pages b.rs).set j v).length = 16 := by rw [List.length_set, pages_length]
  have h := mapOf_ok _ hl hr
  obtain ⟨z, hz⟩ := Int.eq_ofNat_of_zero_le (show 0 ≤ b.sz by omega)
  refine ⟨h.1, h.2, ?_⟩
  rw [hz]
  exact ends_of _ hl hr z (by omega) (fun i h1 h2 => by
    rw [getD_set16 _ _ _ _ (by rw [pages_length]; omega), if_neg (by omega), ends_to b.rs b.sz hm he i h2 (by omega)]
    omega)

/-- What cutting leaves. -/
theorem cut_ok {s : Sf} (h : ShInv s) (i : Nat) (hi : i < s.bs.length) (n : Nat) (hn : n ≤ 16) : Cells s.cs.length (cutBook s i n).cs (cutBook s i n).ps ∧ ∀ k, k < s.cs.length → (cutBook s i n).cs.getD k 0 = s.cs.getD k 0 - (((pages s.bs[i].rs).drop n).count (k : Int) : Int) := by
  unfold cutBook
  rw [bookAt_of s.bs i hi]
  simp only
  refine dropAll_ok _ h.cells (fun p hp => ?_) (fun k hk => ?_)
  · by_cases h0 : 0 ≤ p
    · exact (h.page i hi p (List.mem_of_mem_drop hp) h0).1
    · omega
  · have h1 := cnt_le_cs h i hi k hk
    unfold Pb.cnt at h1
    have h2 := (List.drop_sublist n (pages s.bs[i].rs)).count_le (k : Int)
    omega

theorem Cells.same {n : Nat} {cs ps : List Int} (h : Cells n cs ps) (p : Nat) (hp : p < n) (v : Int) (hv : 0 ≤ v ∧ v ≤ 999) (hc : cs.getD p 0 ≠ 0) : Cells n cs (ps.set p v) :=
  ⟨h.c, by simpa using h.p, fun k hk => by
    rw [getD_set ps p k v (by rw [h.p]; exact hp)]
    have := h.val k hk
    by_cases e : p = k
    · subst e; rw [if_pos rfl]; exact ⟨hv.1, hv.2, fun q => absurd q hc⟩
    · rw [if_neg e]; exact this⟩

theorem Cells.took {n : Nat} {cs ps : List Int} (h : Cells n cs ps) (v : Int) (hv : 0 ≤ v ∧ v ≤ 999) (hf : firstFree cs < cs.length) : Cells n (tookC cs) (tookP cs ps v) ∧ ∀ k, k < n → (tookC cs).getD k 0 = cs.getD k 0 + (if tookAt cs = (k : Int) then 1 else 0) := by
  have hc := h.c
  have h0 := firstFree_at cs hf
  unfold tookC tookP tookAt
  rw [if_pos hf, if_pos hf, if_pos hf]
  have g : ∀ k, (cs.set (firstFree cs) 1).getD k 0 = if firstFree cs = k then 1 else cs.getD k 0 := fun k => getD_set cs _ k _ hf
  refine ⟨⟨by simpa using hc, by simpa using h.p, fun k hk => ?_⟩, fun k hk => ?_⟩
  · rw [g, getD_set ps _ k v (by rw [h.p]; omega)]
    have := h.val k hk
    by_cases e : firstFree cs = k
    · rw [if_pos e, if_pos e]; exact ⟨hv.1, hv.2, fun q => by omega⟩
    · rw [if_neg e, if_neg e]; exact this
  · rw [g]
    by_cases e : firstFree cs = k
    · subst e; rw [if_pos rfl, if_pos rfl]; omega
    · rw [if_neg e, if_neg (by omega)]; omega
end Go.Proofs.YtcefcglonooelaaGreatDoor

namespace Go.Proofs.YtcefcglonooelaaGreatDoor
open Go.RowKit

set_option linter.unusedVariables false

set_option maxRecDepth 100000


/-- What of an op that is right and not refused the shelf wants. -/
theorem op_parts {o : Oq} (h : opOk o = true) : Nums.nameB o.nm.data.toList = true ∧ (1 ≤ o.k ∧ o.k ≤ 9) ∧ (kOther o.k = true → Nums.nameB o.ot.data.toList = true) ∧ (0 ≤ o.at_ ∧ o.at_ ≤ 255) ∧ (kSize o.k = true → 1 ≤ o.va ∧ o.va ≤ 16) ∧ (o.k = 2 → 0 ≤ o.va ∧ o.va ≤ 999) := by
  simp only [opOk, Bool.and_eq_true, inB_iff] at h
  obtain ⟨⟨⟨⟨⟨⟨⟨⟨h1, h2⟩, h3⟩, h4⟩, h5⟩, h6⟩, h7⟩, h8⟩, h9⟩ := h
  refine ⟨h1, h2, fun q => ?_, h6, fun q => ?_, fun q => ?_⟩
  · rw [q] at h4; simpa using h4
  · unfold valOk at h9; rw [if_pos q, inB_iff] at h9; exact h9
  · unfold valOk at h9
    rw [q] at h9
    simp only [kSize] at h9
    rw [if_neg (by decide), if_pos (by trivial), inB_iff] at h9
    exact h9

theorem refused_parts {bs : List Pb} {o : Oq} (h : refused bs o = 0) : (o.k ≠ 1 → 0 ≤ findP bs o.nm) ∧ (o.k = 1 → findP bs o.nm < 0 ∧ bs.length ≠ 6) ∧ (kOther o.k = true → findP bs o.ot < 0 ∧ (o.k ≠ 1 → bs.length ≠ 6)) ∧ (o.k ≠ 1 → kAt o.k = true → o.at_ < (bookAt bs (findP bs o.nm)).sz) ∧ (o.k = 8 → (bookAt bs (findP bs o.nm)).ep ≠ 1000) := by
  unfold refused at h
  split at h
  · omega
  rename_i h1
  split at h
  · omega
  rename_i h2
  have a1 : o.k ≠ 1 → 0 ≤ findP bs o.nm := fun q => by
    by_cases z : findP bs o.nm < 0
    · exact absurd ⟨q, z⟩ h1
    · omega
  have a3 : kOther o.k = true → findP bs o.ot < 0 := fun q => by
    by_cases z : 0 ≤ findP bs o.ot
    · exact absurd (.inr ⟨q, z⟩) h2
    · omega
  have a2 : o.k = 1 → findP bs o.nm < 0 := fun q => by
    by_cases z : 0 ≤ findP bs o.nm
    · exact absurd (.inl ⟨q, z⟩) h2
    · omega
  split at h
  · rename_i h3
    have a4 : bs.length ≠ 6 := fun q => by rw [if_pos q] at h; omega
    exact ⟨a1, fun q => ⟨a2 q, a4⟩, fun q => ⟨a3 q, fun _ => a4⟩, fun q => absurd h3 q, fun q => by omega⟩
  rename_i h3
  split at h
  · omega
  split at h
  · omega
  split at h
  · omega
  rename_i h6
  split at h
  · omega
  rename_i h7
  split at h
  · omega
  rename_i h8
  exact ⟨a1, fun q => absurd q h3, fun q => ⟨a3 q, fun _ z => h7 ⟨q, z⟩⟩, fun _ q => by
    by_cases z : (bookAt bs (findP bs o.nm)).sz ≤ o.at_
    · exact absurd ⟨q, z⟩ h6
    · omega, fun q z => h8 ⟨q, z⟩⟩

theorem filter_count (rs : List (Int × Int × Int)) (hm : mapOk rs = true) (k : Nat) : (pagesOf rs).count (k : Int) = (pages rs).count (k : Int) := by
  unfold pagesOf
  rw [if_pos hm, List.count_filter (by simp)]

set_option maxHeartbeats 1600000 in
theorem kind_inv {s : Sf} (h : ShInv s) (o : Oq) (ho : opOk o = true) (hk : o.k = 9 ∨ o.k = 8 ∨ o.k = 7 ∨ o.k = 3 ∨ o.k = 2) (i : Nat) (hi : i < s.bs.length) (hat : kAt o.k = true → o.at_ < s.bs[i].sz) (h8 : o.k = 8 → s.bs[i].ep ≠ 1000) (page : Int) (hpg : page = if o.at_ < 16 then (pages s.bs[i].rs).getD o.at_.toNat 0 else -1) : ShInv (doKind s o i s.bs[i] page).1 := by
  obtain ⟨-, -, -, ha, hs7, hw2⟩ := op_parts ho
  have hbo := h.oks _ (List.getElem_mem hi)
  obtain ⟨b1, b2, b3, b4, b5⟩ := book_parts hbo
  unfold doKind
  rcases hk with q | q | q | q | q
  · rw [if_pos q]; exact h
  · rw [if_neg (by omega), if_pos q]
    refine h.put i hi { s.bs[i] with ep := s.bs[i].ep + 1 } (book_mk (b := { s.bs[i] with ep := s.bs[i].ep + 1 }) b1 b2 (by have := h8 q; simp only; omega) b4 b5) rfl s.cs s.ps h.cells (fun k hk => ?_) (fun k h1 h2 => cnt_out h i hi k h1 h2)
    show s.cs.getD k 0 = s.cs.getD k 0 - s.bs[i].cnt (k : Int) + s.bs[i].cnt (k : Int)
    omega
  · rw [if_neg (by omega), if_neg (by omega), if_pos q]
    have hv := hs7 (by rw [q]; decide)
    obtain ⟨n, hn⟩ := Int.eq_ofNat_of_zero_le (show 0 ≤ o.va by omega)
    obtain ⟨c1, c2⟩ := cut_ok h i hi o.va.toNat (by omega)
    have p1 := cut_pages s.bs[i].rs b4 o.va.toNat (by omega)
    have hset : (cutBook s i o.va.toNat).bs = s.bs.set i { s.bs[i] with rs := mapOf (cutAt (pages s.bs[i].rs) (o.va.toNat : Nat)) } := by
      unfold cutBook
      rw [bookAt_of s.bs i hi]
    have hbk : bookAt (cutBook s i o.va.toNat).bs i = { s.bs[i] with rs := mapOf (cutAt (pages s.bs[i].rs) (o.va.toNat : Nat)) } := by
      rw [hset, bookAt_of _ i (by simpa using hi), List.getElem_set_self]
    rw [hbk, hset, List.set_set]
    refine h.put i hi { s.bs[i] with rs := mapOf (cutAt (pages s.bs[i].rs) (o.va.toNat : Nat)), sz := o.va } (book_mk (b := { s.bs[i] with rs := mapOf (cutAt (pages s.bs[i].rs) (o.va.toNat : Nat)), sz := o.va }) b1 hv b3 p1.1 (by simp only; rw [show o.va = ((o.va.toNat : Nat) : Int) by omega]; exact p1.2.2)) rfl _ _ c1 (fun k hk => ?_) (fun k h1 h2 => ?_)
    · rw [c2 k hk]
      show _ = s.cs.getD k 0 - ((pages s.bs[i].rs).count (k : Int) : Int) + ((pages (mapOf (cutAt (pages s.bs[i].rs) (o.va.toNat : Nat)))).count (k : Int) : Int)
      rw [p1.2.1, cutAt_count _ (pages_length _) _ (by omega)]
      omega
    · show ((pages (mapOf (cutAt (pages s.bs[i].rs) (o.va.toNat : Nat)))).count (k : Int) : Int) = 0
      rw [p1.2.1, cutAt_count _ (pages_length _) _ (by omega)]
      have := cnt_out h i hi k h1 h2
      unfold Pb.cnt at this
      have := (List.drop_sublist o.va.toNat (pages s.bs[i].rs)).count_le (k : Int)
      omega
  · rw [if_neg (by omega), if_neg (by omega), if_neg (by omega), if_pos q]
    have hlt := hat (by rw [q]; decide)
    rw [if_pos (by omega)] at hpg
    split
    · rename_i h0
      obtain ⟨j, hj⟩ := Int.eq_ofNat_of_zero_le ha.1
      have hjt : o.at_.toNat = j := by omega
      rw [hjt] at hpg ⊢
      have hmem : page ∈ pages s.bs[i].rs := (mem_getD _ (pages_length _) _).2 ⟨j, by omega, hpg.symm⟩
      obtain ⟨g1, g2⟩ := h.page i hi page hmem h0
      obtain ⟨m, rfl⟩ := Int.eq_ofNat_of_zero_le h0
      rw [Int.toNat_natCast] at g2
      obtain ⟨c1, c2⟩ := dropOne_ok h.cells m (by omega) g2
      have p1 := set_pages s.bs[i] hbo j (by omega) (-1) (by omega)
      refine h.put i hi { s.bs[i] with rs := mapOf ((pages s.bs[i].rs).set j (-1)) } (book_mk (b := { s.bs[i] with rs := mapOf ((pages s.bs[i].rs).set j (-1)) }) b1 b2 b3 p1.1 p1.2.2) rfl _ _ c1 (fun k hk => ?_) (fun k h1 h2 => ?_)
      · rw [c2]
        show _ = s.cs.getD k 0 - ((pages s.bs[i].rs).count (k : Int) : Int) + ((pages (mapOf ((pages s.bs[i].rs).set j (-1)))).count (k : Int) : Int)
        rw [p1.2.1, set_count _ j (by rw [pages_length]; omega), ← hpg, if_neg (show ¬ (-1 : Int) = (k : Int) by omega)]
        by_cases e : m = k
        · subst e; rw [if_pos rfl, if_pos rfl]; omega
        · rw [if_neg e, if_neg (by omega)]; omega
      · show ((pages (mapOf ((pages s.bs[i].rs).set j (-1)))).count (k : Int) : Int) = 0
        rw [p1.2.1, set_count _ j (by rw [pages_length]; omega), ← hpg, if_neg (show ¬ (-1 : Int) = (k : Int) by omega), if_neg (by omega)]
        have := cnt_out h i hi k h1 h2
        unfold Pb.cnt at this
        omega
    · exact h
  · rw [if_neg (by omega), if_neg (by omega), if_neg (by omega), if_neg (by omega)]
    have hlt := hat (by rw [q]; decide)
    have hv := hw2 q
    rw [if_pos (by omega)] at hpg
    obtain ⟨j, hj⟩ := Int.eq_ofNat_of_zero_le ha.1
    have hjt : o.at_.toNat = j := by omega
    unfold doWrite
    rw [hjt] at hpg ⊢
    split
    · rename_i h0
      obtain ⟨m, rfl⟩ := Int.eq_ofNat_of_zero_le h0.1
      have hmem : (m : Int) ∈ pages s.bs[i].rs := (mem_getD _ (pages_length _) _).2 ⟨j, by omega, hpg.symm⟩
      obtain ⟨g1, g2⟩ := h.page i hi _ hmem h0.1
      rw [Int.toNat_natCast] at h0 g2 ⊢
      exact ⟨h.n1, h.cells.same m (by omega) o.va hv (by omega), h.few, h.oks, h.srt, h.cnt, h.out⟩
    · rename_i h0
      split
      · rename_i hf
        obtain ⟨t1, t2⟩ := h.cells.took o.va hv hf
        have htk : tookAt s.cs = (firstFree s.cs : Int) := by unfold tookAt; rw [if_pos hf]
        have hn24 := h.n1.2
        have p1 := set_pages s.bs[i] hbo j (by omega) (tookAt s.cs) (by omega)
        have hfc : s.cs.getD (firstFree s.cs) 0 = 0 := firstFree_at s.cs hf
        by_cases hp : 0 ≤ page
        · have hmem : page ∈ pages s.bs[i].rs := (mem_getD _ (pages_length _) _).2 ⟨j, by omega, hpg.symm⟩
          obtain ⟨g1, g2⟩ := h.page i hi page hmem hp
          obtain ⟨m, rfl⟩ := Int.eq_ofNat_of_zero_le hp
          rw [Int.toNat_natCast] at g2
          have hmf : firstFree s.cs ≠ m := fun e => by rw [e] at hfc; omega
          have t3 := t2 m (by omega)
          rw [if_neg (by omega)] at t3
          obtain ⟨c1, c2⟩ := dropOne_ok t1 m (by omega) (by omega)
          refine h.put i hi { s.bs[i] with rs := mapOf ((pages s.bs[i].rs).set j (tookAt s.cs)) } (book_mk (b := { s.bs[i] with rs := mapOf ((pages s.bs[i].rs).set j (tookAt s.cs)) }) b1 b2 b3 p1.1 p1.2.2) rfl _ _ c1 (fun k hk => ?_) (fun k h1 h2 => ?_)
          · rw [c2]
            show _ = s.cs.getD k 0 - ((pages s.bs[i].rs).count (k : Int) : Int) + ((pages (mapOf ((pages s.bs[i].rs).set j (tookAt s.cs)))).count (k : Int) : Int)
            rw [p1.2.1, set_count _ j (by rw [pages_length]; omega), ← hpg, t2 k hk]
            by_cases e : m = k
            · subst e; rw [if_pos rfl, if_pos rfl]; omega
            · rw [if_neg e, if_neg (show ¬ (m : Int) = (k : Int) by omega)]; omega
          · show ((pages (mapOf ((pages s.bs[i].rs).set j (tookAt s.cs)))).count (k : Int) : Int) = 0
            rw [p1.2.1, set_count _ j (by rw [pages_length]; omega), ← hpg, if_neg (by omega), if_neg (by omega)]
            have := cnt_out h i hi k h1 h2
            unfold Pb.cnt at this
            omega
        · have hd : dropOne (tookC s.cs, tookP s.cs s.ps o.va) page = (tookC s.cs, tookP s.cs s.ps o.va) := by rw [dropOne, if_neg hp]
          rw [hd]
          refine h.put i hi { s.bs[i] with rs := mapOf ((pages s.bs[i].rs).set j (tookAt s.cs)) } (book_mk (b := { s.bs[i] with rs := mapOf ((pages s.bs[i].rs).set j (tookAt s.cs)) }) b1 b2 b3 p1.1 p1.2.2) rfl _ _ t1 (fun k hk => ?_) (fun k h1 h2 => ?_)
          · show _ = s.cs.getD k 0 - ((pages s.bs[i].rs).count (k : Int) : Int) + ((pages (mapOf ((pages s.bs[i].rs).set j (tookAt s.cs)))).count (k : Int) : Int)
            rw [p1.2.1, set_count _ j (by rw [pages_length]; omega), ← hpg, t2 k hk, if_neg (show ¬ page = (k : Int) by omega)]
            omega
          · show ((pages (mapOf ((pages s.bs[i].rs).set j (tookAt s.cs)))).count (k : Int) : Int) = 0
            rw [p1.2.1, set_count _ j (by rw [pages_length]; omega), ← hpg, if_neg (show ¬ page = (k : Int) by omega), if_neg (by omega)]
            have := cnt_out h i hi k h1 h2
            unfold Pb.cnt at this
            omega
      · exact h

theorem do_inv {s : Sf} (h : ShInv s) (o : Oq) : ShInv (doOp s o).1 := by
  unfold doOp
  split
  · exact h
  rename_i ho
  have ho : opOk o = true := by simpa using ho
  split
  · exact h
  rename_i hr
  have hr : refused s.bs o = 0 := by simpa using hr
  obtain ⟨r1, r2, r3, r4, r5⟩ := refused_parts hr
  obtain ⟨n1, n2, n3, n4, n5, n6⟩ := op_parts ho
  split
  · rename_i q
    obtain ⟨q1, q2⟩ := r2 q
    have hf := h.few
    refine h.insert ⟨o.nm, o.va, [], false, 0⟩ (book_mk (b := ⟨o.nm, o.va, [], false, 0⟩) n1 (n5 (by rw [q]; decide)) (by simp only; omega) rfl rfl) q1 (by omega) s.cs h.cells (fun k hk => ?_) (fun k h1 h2 => cnt_empty _ _ _ _ _)
    rw [cnt_empty]
    omega
  rename_i q1
  have hfi := r1 q1
  obtain ⟨i, hi, hfe, hnm⟩ := find_in s.bs o.nm (by omega)
  rw [hfe] at r4 r5 ⊢
  rw [bookAt_of s.bs i hi] at r4 r5 ⊢
  rw [Int.toNat_natCast]
  split
  · rename_i q6
    obtain ⟨c1, c2⟩ := cut_ok h i hi 0 (by omega)
    exact h.erase i hi _ _ c1 (fun k hk => by rw [c2 k hk, List.drop_zero]; rfl)
  rename_i q6
  split
  · rename_i q5
    obtain ⟨t1, t2⟩ := r3 q5
    obtain ⟨b1, b2, b3, b4, b5⟩ := book_parts (h.oks _ (List.getElem_mem hi))
    have hf := h.few
    have ht2 := t2 q1
    have hpm : ∀ p ∈ pagesOf s.bs[i].rs, 0 ≤ p ∧ p ∈ pages s.bs[i].rs := fun p hp => by
      unfold pagesOf at hp
      rw [if_pos b4, List.mem_filter, decide_eq_true_eq] at hp
      exact ⟨hp.2, hp.1⟩
    obtain ⟨c1, c2⟩ := shareAll_ok (pagesOf s.bs[i].rs) h.cells (fun p hp => ⟨(hpm p hp).1, (h.page i hi p (hpm p hp).2 (hpm p hp).1).1⟩) (fun p hp => (h.page i hi p (hpm p hp).2 (hpm p hp).1).2)
    refine h.insert ⟨o.ot, s.bs[i].sz, s.bs[i].rs, decide (o.k = 4), 0⟩ (book_mk (b := ⟨o.ot, s.bs[i].sz, s.bs[i].rs, decide (o.k = 4), 0⟩) (n3 q5) b2 (by simp only; omega) b4 b5) t1 (by omega) _ c1 (fun k hk => ?_) (fun k h1 h2 => cnt_out h i hi k h1 h2)
    rw [c2 k hk, filter_count _ b4]
    rfl
  rename_i q5
  have hk : o.k = 9 ∨ o.k = 8 ∨ o.k = 7 ∨ o.k = 3 ∨ o.k = 2 := by
    have : ¬ (o.k = 4 ∨ o.k = 5) := fun z => q5 (by unfold kOther; rcases z with z | z <;> simp [z])
    omega
  exact kind_inv h o ho hk i hi (r4 q1) r5 _ rfl
end Go.Proofs.YtcefcglonooelaaGreatDoor

namespace Go.Proofs.YtcefcglonooelaaGreatDoor
open Go.RowKit

set_option linter.unusedVariables false

set_option maxRecDepth 100000


def Bk.pb (b : Bk) : Pb := ⟨b.nm, b.sz, b.rs, b.fx, b.ep⟩

theorem sorted_adj : ∀ (l : List ByteArray), (∀ (j : Nat) (h1 : j + 1 < l.length), ltB (l[j]'(by omega)) l[j + 1] = true) → sortedB l = true
  | [], _ => rfl
  | [a], _ => rfl
  | a :: b :: t, h => by
    rw [sortedB, Bool.and_eq_true]
    refine ⟨h 0 (by simp), sorted_adj (b :: t) (fun j h1 => ?_)⟩
    have := h (j + 1) (by simp at h1 ⊢; omega)
    simpa using this

theorem sorted_not (l : List ByteArray) (j : Nat) (h1 : j + 1 < l.length) (h : ltB (l[j]'(by omega)) l[j + 1] = false) : sortedB l = false := by
  rw [Bool.eq_false_iff]
  intro q
  have := List.pairwise_iff_getElem.1 ((sorted_iff l).1 q) j (j + 1) (by omega) h1 (by omega)
  rw [h] at this
  cases this
end Go.Proofs.YtcefcglonooelaaGreatDoor

namespace Go.Proofs.YtcefcglonooelaaGreatDoor
set_option linter.unusedVariables false

set_option maxRecDepth 100000


theorem new_inv (n : Int) (h : 1 ≤ n ∧ n ≤ 24) : ShInv ⟨(newPool n).1.1, (newPool n).1.2, []⟩ := by
  have e : newPool n = ((List.replicate n.toNat 0, List.replicate n.toNat 0), true) := by rw [newPool, if_pos h]
  rw [e]
  have g : ∀ k : Nat, (List.replicate n.toNat (0 : Int)).getD k 0 = 0 := fun k => by
    rw [List.getD_eq_getElem?_getD, List.getElem?_replicate]
    split <;> rfl
  refine ⟨?_, ⟨rfl, ?_, ?_⟩, ?_, ?_, ?_, ?_, ?_⟩
  · simp only [List.length_replicate]; omega
  · simp only [List.length_replicate]
  · intro k _
    rw [g k]
    omega
  · exact Nat.zero_le _
  · intro b hb; cases hb
  · exact List.Pairwise.nil
  · intro k _
    show (List.replicate n.toNat (0 : Int)).getD k 0 = _
    rw [g k]
    rfl
  · intro k _ _
    rfl
end Go.Proofs.YtcefcglonooelaaGreatDoor

namespace Go.Proofs.YtcefcglonooelaaGreatDoor
open Go.RowKit

set_option linter.unusedVariables false

set_option maxRecDepth 100000

/-- make([]int64, n): a row of noughts, at the end of memory. -/
theorem made_ints (n : Nat) (hn : n ≤ 1048576) : ∃ M : Array Value, M.toList = (List.replicate n (0 : Int)).map (Value.int .i64) ∧ (∀ W : World, (Instr.makeSlice 37 (.int .i64 (n : Int)) (.int .i64 (n : Int))).run Tryz.prog W = .ok (.slice (some ⟨W.heap.size, 0, none⟩) n n) (W.alloc (.cells M 2))) ∧
    ∀ (W : World) (base : Nat), base ≤ W.heap.size → (W.alloc (.cells M 2)).ownsRow base 2 1 (.slice (some ⟨W.heap.size, 0, none⟩) n n) n ((List.replicate n (0 : Int)).map (Value.int .i64)) := by
  obtain ⟨i0, hi, hz0, hz1, hz2⟩ := info_parts Tryz.infoI64
  have e : (madeCells (Value.int .i64 0).cells n).toList = (List.replicate n (0 : Int)).map (Value.int .i64) := by
    show (madeCells #[.int .i64 0] n).toList = _
    rw [toList_madeCells_one]
    simp
  refine ⟨madeCells (Value.int .i64 0).cells n, e, fun W => ?_, fun W base hb => ?_⟩
  · have h := run_make (P := Tryz.prog) W 37 2 i0 (.int .i64 0) Tryz.underlying37 hi hz0 .i64 .i64 (n : Int) (n : Int) (by omega) (by omega) (by rw [hz2]; omega) (by omega)
    rw [hz1, Nat.mul_one, Int.toNat_natCast] at h
    simpa using h
  · have h := World.ownsRow_lit (base := base) (size := 1) (e := 2) W (madeCells (Value.int .i64 0).cells n) n hb (by unfold maxLen; omega) (by rw [size_madeCells]; omega)
    rwa [e] at h

theorem int_ne {x y : Int} (h : (x != y) = true) : x ≠ y := by simpa using h

theorem int_same {x y : Int} (h : (x != y) = false) : x = y := by simpa using h

set_option maxHeartbeats 800000 in
theorem likeInts_any (v1 v2 : Value) (xs ys : List Int) (w : World) (h1 : Reads w.heap.size w v1 (xs.map (Value.int .i64))) (h2 : Reads w.heap.size w v2 (ys.map (Value.int .i64))) :
    Calls Tryz.prog 44 #[v1, v2] w fun e w' => e = .returned (.bool (decide (xs = ys))) ∧ Below w.heap.size w w' := by
  obtain ⟨o1, cap1, rfl, m1, c1, -⟩ := h1
  obtain ⟨o2, cap2, rfl, m2, c2, -⟩ := h2
  simp only [List.length_map] at m1 m2 c1 c2 ⊢
  by_cases hlen : xs.length = ys.length
  · rw [← hlen]
    have C1 : Hid (∀ j u, (xs.map (Value.int .i64))[j]? = some u → ∃ g off, o1 = some ⟨g, off, none⟩ ∧ g < w.heap.size ∧ w.cell? ⟨g, off + j, none⟩ = some u) := c1
    have C2 : Hid (∀ j u, (ys.map (Value.int .i64))[j]? = some u → ∃ g off, o2 = some ⟨g, off, none⟩ ∧ g < w.heap.size ∧ w.cell? ⟨g, off + j, none⟩ = some u) := c2
    have HL : Hid (xs.length = ys.length) := hlen
    have hle : ys.length ≤ xs.length := by omega
    have hge : xs.length ≤ ys.length := by omega
    unfold maxLen at m1
    clear c1 c2 m2 hlen
    go_enter Tryz.func44, Tryz.ntmps44
    go_wp2
    go_loopw [5] (fun i wr => ∃ k : Nat, k ≤ xs.length ∧ i = .int .i64 k ∧ xs.take k = ys.take k ∧ Below w.heap.size w wr) (fun i _ => xs.length - (intOf i).toNat)
    case atStart => exact ⟨0, Nat.zero_le _, rfl, rfl, Below.refl _ _⟩
    case round =>
      obtain ⟨k, hk, rfl, htk, hb⟩ := hrel
      have HT : Hid (xs.take k = ys.take k) := htk
      clear htk
      by_cases hlt : k < xs.length
      · have hlt2 : k < ys.length := by omega
        obtain ⟨g1, of1, rfl, q1, cc1⟩ := C1.out k (.int .i64 xs[k]) (by simp [hlt])
        obtain ⟨g2, of2, rfl, q2, cc2⟩ := C2.out k (.int .i64 ys[k]) (by simp [hlt2])
        generalize hx : xs[k] = x at cc1
        generalize hy : ys[k] = y at cc2
        have HX : Hid (xs[k] = x) := hx
        have HY : Hid (ys[k] = y) := hy
        clear hx hy C1 C2
        have d1 := (hb.cell (p := ⟨g1, of1 + k, none⟩) q1).trans cc1
        have d2 := (hb.cell (p := ⟨g2, of2 + k, none⟩) q2).trans cc2
        clear cc1 cc2
        go_wp2
        go_quiet (fail)
        go_wp2
        · have hne : x ≠ y := int_ne (by assumption)
          rw [← HX.out, ← HY.out] at hne
          go_ret
          exact ⟨ret_bool (by simp [ne_at xs ys k hlt hlt2 hne]), ⟨hb.os, hb.tape, hb.output, hb.size, hb.block⟩⟩
        · have he : x = y := int_same (by assumption)
          rw [← HX.out, ← HY.out] at he
          go_roundw
          case rel => exact ⟨k + 1, by omega, by go_num, take_more xs ys k hlt hlt2 HT.out he, ⟨hb.os, hb.tape, hb.output, hb.size, hb.block⟩⟩
          case measure => simp [intOf]; omega
      · go_wp2
        go_ret
        exact ⟨ret_bool (by simp [all_taken xs ys k hlt HL.out HT.out]), hb⟩
  · have hn : ((xs.length : Int) != (ys.length : Int)) = true := by rw [bne_iff_ne]; omega
    have HX : Hid (decide (xs = ys) = false) := by rw [Hid, decide_eq_false_iff_not]; intro e; rw [e] at hlen; exact hlen rfl
    unfold maxLen at m1 m2
    clear hlen c1 c2
    go_enter Tryz.func44, Tryz.ntmps44
    go_wp2
    go_ret
    exact ⟨ret_bool HX.out.symm, Below.refl _ _⟩
end Go.Proofs.YtcefcglonooelaaGreatDoor

namespace Go.Proofs.YtcefcglonooelaaGreatDoor
open Go.RowKit

set_option linter.unusedVariables false

set_option maxRecDepth 100000


/-- A box of a pool: its two rows. -/
theorem pool_box (w : World) (v1 v2 : Value) (T : TypeId) : ∃ W0, W0 = w.alloc (.cells #[v1, v2] T) ∧ W0.heap[w.heap.size]? = some (.cells #[v1, v2] T (0, 0)) ∧ Below w.heap.size w W0 ∧ W0.heap.size = w.heap.size + 1 :=
  ⟨_, rfl, heap_alloc_new w _, bw_alloc (Below.refl _ _), by simp⟩

theorem getD_some (xs : List Int) (j : Nat) (h : j < xs.length) : (xs.map (Value.int .i64))[j]? = some (.int .i64 (xs.getD j 0)) := by
  rw [List.getElem?_map, List.getElem?_eq_getElem h, List.getD_eq_getElem?_getD, List.getElem?_eq_getElem h]; rfl
end Go.Proofs.YtcefcglonooelaaGreatDoor

