/-
  Contracts and plain laws, one chapter behind the other.
-/
import Derived.Test.YtibhepekmihagaaGreatDoorRows
import Derived.Test.YtibhepekmihagaaGreatDoorTie
import Derived.Test.YtibhepekmihagaaGreatDoorCards
import Derived.SevenTiedAt
import Derived.JoinedOf
import Derived.ProofKit
import Derived.Laws.Bits128
import Derived.IntWalk
import Derived.Test.YtibhepekmihagaaGreatDoorChecked
import Derived.WalkKit
import Derived.WalkSpells
import Derived.Handy
import Derived.Below
import Derived.Deep.QuietTactic
import Derived.BigQuiet
import Derived.OpenShut
import Derived.ShutString
import Derived.Lib.SmallJoins
import Derived.SliceStrings
import Derived.ChangeSlices
import Derived.Test.YtibhepekmihagaaGreatDoorM01
import Derived.Test.YtibhepekmihagaaGreatDoorM07
namespace Go.Proofs.YtibhepekmihagaaGreatDoor.fnExactNewWorld
open Go

set_option linter.unusedVariables false


theorem both {a b : Bool} (h : a = true) (k : b = true) : (a && b) = true := by rw [h, k]; rfl

theorem hfn : Tryz.prog.funcNamed Rows.fnExactNewWorldRow.func = some 6 := by kernel_rfl

set_option maxRecDepth 100000 in
set_option maxHeartbeats 12800000 in
theorem closed : joinedFacts Tryz.prog 6 Tryz.f6 Rows.fnExactNewWorldSpec Rows.fnExactNewWorldRow = true := by
  unfold joinedFacts
  refine both (both (both (both (both (both (both (both (both (both (both (both (both (both (both (both (both (both (both (both (both (both (both (both (both (both (both (both (both (both (both ?_ ?_) ?_) ?_) ?_) ?_) ?_) ?_) ?_) ?_) ?_) ?_) ?_) ?_) ?_) ?_) ?_) ?_) ?_) ?_) ?_) ?_) ?_) ?_) ?_) ?_) ?_) ?_) ?_) ?_) ?_) ?_
  all_goals as_aux_lemma => kernel_rfl

theorem hinst : Tryz.f6.isInstance Tryz.prog Rows.fnExactNewWorldRow.origin Rows.fnExactNewWorldRow.targs := of_decide_eq_true (by kernel_rfl)

theorem hwrap : Tryz.f6.isWrapper Tryz.prog Rows.fnExactNewWorldRow.wrapper Rows.fnExactNewWorldRow.mainSum := by unfold Func.isWrapper; first | (rw [if_pos (by decide +kernel)]; kernel_rfl) | (rw [if_neg (by decide +kernel)]; exact ⟨rfl, rfl⟩)

theorem byText : Rows.fnExactNewWorldRow.wfByText (OpenSpec.ofChange Rows.fnExactNewWorldSpec) = true := by kernel_rfl

theorem mainIs : Tryz.prog.mainIs = some (true, "0982d5ae380c2dea0abb4d2040c985eedbc7985d22bb2a5e3b3720686eb6e62d".toList) := by kernel_rfl

theorem looks : true = Tryz.prog.looks [] := by kernel_rfl

theorem goes : false = Rows.fnExactNewWorldRow.goesBy Tryz.prog := by kernel_rfl

theorem stand2 : Tryz.prog.wantsStandIn 2 = false := by kernel_rfl
end Go.Proofs.YtibhepekmihagaaGreatDoor.fnExactNewWorld

namespace Go.Proofs.YtibhepekmihagaaGreatDoor
open Go.RowKit

set_option linter.unusedVariables false

set_option maxRecDepth 100000


/-- The bytes of an argument, below block c. -/
def Src (w : World) (c : Nat) (x : Option Addr) (len : Nat) : Prop :=
  len ≤ maxLen ∧ ∀ j, j < len → ∃ b off z, x = some ⟨b, off, none⟩ ∧ b < c ∧ w.cell? ⟨b, off + j, none⟩ = some (.int .u8 z) ∧ 0 ≤ z ∧ z ≤ 255

theorem Src.below {w w' : World} {c : Nat} {x : Option Addr} {len : Nat} (h : Src w c x len) (k : Below c w w') : Src w' c x len :=
  ⟨h.1, fun j hj => by obtain ⟨b, off, z, e, hb, hz, r⟩ := h.2 j hj; exact ⟨b, off, z, e, hb, (k.cell (p := ⟨b, off + j, none⟩) hb).trans hz, r⟩⟩

theorem Src.mono {w : World} {c d : Nat} {x : Option Addr} {len : Nat} (h : Src w c x len) (k : c ≤ d) : Src w d x len :=
  ⟨h.1, fun j hj => by obtain ⟨b, off, z, e, hb, r⟩ := h.2 j hj; exact ⟨b, off, z, e, Nat.lt_of_lt_of_le hb k, r⟩⟩

theorem Cur.new {w : World} {x : Option Addr} {len cap : Nat} (h : Src w w.heap.size x len) (q : Int) (t : TypeId) :
    Cur (w.alloc (.cells #[.slice x len cap, .int .i64 0, .int .i64 q] t)) w.heap.size x len cap := by
  have hb : Below w.heap.size w (w.alloc (.cells #[.slice x len cap, .int .i64 0, .int .i64 q] t)) := (Below.refl _ _).alloc (Nat.le_refl _) _
  refine ⟨by simp [go_sem], h.1, by simp [go_sem], ⟨0, q, Nat.zero_le _, by simp [go_sem], by simp [go_sem]⟩, by simp [go_sem], by simp [go_sem], fun j hj => ?_⟩
  obtain ⟨b, off, z, e, hb', hz, r⟩ := h.2 j hj
  exact ⟨b, off, z, e, hb', (hb.cell (p := ⟨b, off + j, none⟩) hb').trans hz, r⟩
end Go.Proofs.YtibhepekmihagaaGreatDoor

namespace Go.Proofs.YtibhepekmihagaaGreatDoor
open Go.ChangeShapes Go.WideShapes Go.ChangeAt Go.RowKit Go.Joins

open Go.ChangeMaps (open_string)

set_option linter.unusedVariables false

set_option maxRecDepth 100000


theorem open_i64 {H : Type} {enc : TypeId × Value → H} {W : World} {base : Nat} {v : Value} {d : DataW H} {p : List MemPlace} (hv : Value.okWide Tryz.prog W .any base 2 v) (h : DataW.Trod enc Tryz.prog W 0 (fun _ => true) true 2 v d p) :
    ∃ a : Int, v = .int .i64 a ∧ (Lit.int .i64 a).wf = true := by
  obtain ⟨a, rfl, _, _, w⟩ := open_int Tryz.underlying2 hv h
  exact ⟨a, rfl, w⟩
end Go.Proofs.YtibhepekmihagaaGreatDoor

namespace Go.Proofs.YtibhepekmihagaaGreatDoor
open Go.RowKit

set_option linter.unusedVariables false

set_option maxRecDepth 100000


theorem cnt_empty (nm : ByteArray) (sz : Int) (fx : Bool) (ep : Int) (k : Nat) : (⟨nm, sz, [], fx, ep⟩ : Pb).cnt (k : Int) = 0 := by
  show (((List.replicate 16 (-1 : Int)).count (k : Int) : Nat) : Int) = 0
  rw [List.count_replicate, if_neg (by rw [beq_iff_eq]; omega)]
  rfl

theorem cnt_out {s : Sf} (h : ShInv s) (i : Nat) (hi : i < s.bs.length) (k : Nat) (h1 : s.cs.length ≤ k) (h2 : k < 24) : s.bs[i].cnt (k : Int) = 0 := by
  have := cntAll_at s.bs i hi (k : Int)
  have := cnt_nonneg s.bs[i] (k : Int)
  have := h.out k h1 h2
  omega

/-- A book is put in its place. -/
theorem ShInv.put {s : Sf} (h : ShInv s) (i : Nat) (hi : i < s.bs.length) (b : Pb) (hok : b.ok = true) (hn : b.nm = s.bs[i].nm) (cs ps : List Int) (hc : Cells s.cs.length cs ps)
    (hcnt : ∀ k, k < s.cs.length → cs.getD k 0 = s.cs.getD k 0 - s.bs[i].cnt (k : Int) + b.cnt (k : Int)) (hout : ∀ k, s.cs.length ≤ k → k < 24 → b.cnt (k : Int) = 0) : ShInv ⟨cs, ps, s.bs.set i b⟩ := by
  have hl := hc.c
  refine ⟨by simp only; rw [hl]; exact h.n1, by simp only; rw [hl]; exact hc, by simpa using h.few, fun x hx => ?_, ?_, fun k hk => ?_, fun k hk hk2 => ?_⟩
  · rcases List.mem_or_eq_of_mem_set hx with hx | rfl
    · exact h.oks x hx
    · exact hok
  · simp only
    rw [List.map_set, hn]
    have : (s.bs.map Pb.nm).set i s.bs[i].nm = s.bs.map Pb.nm := by
      have e : s.bs[i].nm = (s.bs.map Pb.nm)[i]'(by simpa using hi) := by simp
      rw [e, List.set_getElem_self]
    rw [this]
    exact h.srt
  · simp only at hk ⊢
    rw [hl] at hk
    rw [hcnt k hk, cntAll_set s.bs i hi, h.cnt k hk]
  · simp only at hk ⊢
    rw [hl] at hk
    rw [cntAll_set s.bs i hi, h.out k hk hk2, cnt_out h i hi k hk hk2, hout k hk hk2]
    rfl

/-- A book more. -/
theorem ShInv.insert {s : Sf} (h : ShInv s) (b : Pb) (hok : b.ok = true) (hn : findP s.bs b.nm < 0) (hf : s.bs.length < 6) (cs : List Int) (hc : Cells s.cs.length cs s.ps)
    (hcnt : ∀ k, k < s.cs.length → cs.getD k 0 = s.cs.getD k 0 + b.cnt (k : Int)) (hout : ∀ k, s.cs.length ≤ k → k < 24 → b.cnt (k : Int) = 0) : ShInv ⟨cs, s.ps, insertP s.bs b⟩ := by
  have hl := hc.c
  have hlen : (insertP s.bs b).length = s.bs.length + 1 := by
    unfold insertP
    simp only [List.length_append, List.length_take, List.length_drop, List.length_cons, List.length_nil]
    omega
  refine ⟨by simp only; rw [hl]; exact h.n1, by simp only; rw [hl]; exact hc, by simp only; omega, fun x hx => ?_, ?_, fun k hk => ?_, fun k hk hk2 => ?_⟩
  · simp only [insertP, List.mem_append, List.mem_singleton] at hx
    rcases hx with (hx | rfl) | hx
    · exact h.oks x (List.mem_of_mem_take hx)
    · exact hok
    · exact h.oks x (List.mem_of_mem_drop hx)
  · exact insert_sorted s.bs b h.srt (fun x hx => find_not s.bs b.nm hn x hx)
  · simp only at hk ⊢
    rw [hl] at hk
    rw [hcnt k hk, insertP, cntAll_insert, h.cnt k hk]
  · simp only at hk ⊢
    rw [hl] at hk
    rw [insertP, cntAll_insert, h.out k hk hk2, hout k hk hk2]
    rfl

/-- A book less. -/
theorem ShInv.erase {s : Sf} (h : ShInv s) (i : Nat) (hi : i < s.bs.length) (cs ps : List Int) (hc : Cells s.cs.length cs ps)
    (hcnt : ∀ k, k < s.cs.length → cs.getD k 0 = s.cs.getD k 0 - s.bs[i].cnt (k : Int)) : ShInv ⟨cs, ps, s.bs.take i ++ s.bs.drop (i + 1)⟩ := by
  have hl := hc.c
  have hsub : (s.bs.take i ++ s.bs.drop (i + 1)).Sublist s.bs := by
    have e := List.take_append_drop i s.bs
    have d : (s.bs.drop (i + 1)).Sublist (s.bs.drop i) := by
      rw [List.drop_eq_getElem_cons hi]
      exact List.sublist_cons_self _ _
    have := (List.Sublist.refl (s.bs.take i)).append d
    rwa [e] at this
  refine ⟨by simp only; rw [hl]; exact h.n1, by simp only; rw [hl]; exact hc, Nat.le_trans hsub.length_le h.few, fun x hx => h.oks x (hsub.subset hx), h.srt.sublist (hsub.map _), fun k hk => ?_, fun k hk hk2 => ?_⟩
  · simp only at hk ⊢
    rw [hl] at hk
    rw [hcnt k hk, cntAll_erase s.bs i hi, h.cnt k hk]
  · simp only at hk ⊢
    rw [hl] at hk
    rw [cntAll_erase s.bs i hi, h.out k hk hk2, cnt_out h i hi k hk hk2]
    rfl

theorem cutAt_split (l : List Int) (hl : l.length = 16) (n : Nat) (hn : n ≤ 16) : cutAt l n = l.take n ++ List.replicate (16 - n) (-1) := by
  apply List.ext_getElem?
  intro j
  unfold cutAt
  by_cases hj : j < 16
  · rw [List.getElem?_map, List.getElem?_range hj]
    by_cases h : j < n
    · rw [List.getElem?_append_left (by simp; omega), List.getElem?_take_of_lt h, List.getElem?_eq_getElem (by omega)]
      simp only [Option.map_some]
      rw [if_pos (by omega), getD_of l j (by omega)]
    · rw [List.getElem?_append_right (by simp; omega), List.getElem?_replicate, if_pos (by simp; omega)]
      simp only [Option.map_some]
      rw [if_neg (by omega)]
  · rw [List.getElem?_eq_none (by simp; omega), List.getElem?_eq_none (by simp; omega)]

theorem cutAt_count (l : List Int) (hl : l.length = 16) (n : Nat) (hn : n ≤ 16) (k : Nat) : ((cutAt l n).count (k : Int) : Int) = (l.count (k : Int) : Int) - ((l.drop n).count (k : Int) : Int) := by
  have e : l.count (k : Int) = (l.take n).count (k : Int) + (l.drop n).count (k : Int) := by rw [← List.count_append, List.take_append_drop]
  rw [cutAt_split l hl n hn, List.count_append, List.count_replicate, if_neg (by rw [beq_iff_eq]; omega)]
  omega

theorem set_count (l : List Int) (j : Nat) (hj : j < l.length) (v : Int) (k : Nat) : ((l.set j v).count (k : Int) : Int) = (l.count (k : Int) : Int) - (if l.getD j 0 = (k : Int) then 1 else 0) + (if v = (k : Int) then 1 else 0) := by
  rw [List.count_set hj, getD_of l j hj]
  by_cases h1 : l[j] = (k : Int)
  · have hp : 1 ≤ l.count (k : Int) := by
      have : (k : Int) ∈ l := by rw [← h1]; exact List.getElem_mem hj
      exact List.count_pos_iff.2 this
    rw [if_pos h1, if_pos (by rw [beq_iff_eq]; exact h1)]
    by_cases h2 : v = (k : Int)
    · rw [if_pos h2, if_pos (by rw [beq_iff_eq]; exact h2)]; omega
    · rw [if_neg h2, if_neg (by rw [beq_iff_eq]; exact h2)]; omega
  · rw [if_neg h1, if_neg (by rw [beq_iff_eq]; exact h1)]
    by_cases h2 : v = (k : Int)
    · rw [if_pos h2, if_pos (by rw [beq_iff_eq]; exact h2)]; omega
    · rw [if_neg h2, if_neg (by rw [beq_iff_eq]; exact h2)]; omega

/-- The pages that a book is cut to. -/
theorem cut_pages (rs : List (Int × Int × Int)) (hm : mapOk rs = true) (n : Nat) (hn : n ≤ 16) : mapOk (mapOf (cutAt (pages rs) n)) = true ∧ pages (mapOf (cutAt (pages rs) n)) = cutAt (pages rs) n ∧ endsBy (mapOf (cutAt (pages rs) n)) n = true := by
  have hr := cutAt_range rs hm n
  have h := mapOf_ok (cutAt (pages rs) n) (cutAt_length _ _) hr
  exact ⟨h.1, h.2, ends_of _ (cutAt_length _ _) hr n hn (fun j h1 h2 => by rw [cutAt_get _ _ j h2, if_neg (by omega)]; omega)⟩

theorem set_pages (b : Pb) (hb : b.ok = true) (j : Nat) (hj : (j : Int) < b.sz) (v : Int) (hv : -1 ≤ v ∧ v ≤ 23) : mapOk (mapOf ((pages b.rs).set j v)) = true ∧ pages (mapOf ((pages b.rs).set j v)) = (pages b.rs).set j v ∧ endsBy (mapOf ((pages b.rs).set j v)) b.sz = true := by
  obtain ⟨-, hs, -, hm, he⟩ := book_parts hb
  have hr := set_range b.rs hm j (by omega) v hv
  have hl : ((pages b.rs).set j v).length = 16 := by rw [List.length_set, pages_length]
  have h := mapOf_ok _ hl hr
  obtain ⟨z, hz⟩ := Int.eq_ofNat_of_zero_le (show 0 ≤ b.sz by omega)
  refine ⟨h.1, h.2, ?_⟩
  rw [hz]
  exact ends_of _ hl hr z (by omega) (fun i h1 h2 => by
    rw [getD_set16 _ _ _ _ (by rw [pages_length]; omega), if_neg (by omega), ends_to b.rs b.sz hm he i h2 (by omega)]
    omega)

/-- What cutting leaves. -/
theorem cut_ok {s : Sf} (h : ShInv s) (i : Nat) (hi : i < s.bs.length) (n : Nat) (hn : n ≤ 16) : Cells s.cs.length (cutBook s i n).cs (cutBook s i n).ps ∧ ∀ k, k < s.cs.length → (cutBook s i n).cs.getD k 0 = s.cs.getD k 0 - (((pages s.bs[i].rs).drop n).count (k : Int) : Int) := by
  unfold cutBook
  rw [bookAt_of s.bs i hi]
  simp only
  refine dropAll_ok _ h.cells (fun p hp => ?_) (fun k hk => ?_)
  · by_cases h0 : 0 ≤ p
    · exact (h.page i hi p (List.mem_of_mem_drop hp) h0).1
    · omega
  · have h1 := cnt_le_cs h i hi k hk
    unfold Pb.cnt at h1
    have h2 := (List.drop_sublist n (pages s.bs[i].rs)).count_le (k : Int)
    omega

theorem Cells.same {n : Nat} {cs ps : List Int} (h : Cells n cs ps) (p : Nat) (hp : p < n) (v : Int) (hv : 0 ≤ v ∧ v ≤ 999) (hc : cs.getD p 0 ≠ 0) : Cells n cs (ps.set p v) :=
  ⟨h.c, by simpa using h.p, fun k hk => by
    rw [getD_set ps p k v (by rw [h.p]; exact hp)]
    have := h.val k hk
    by_cases e : p = k
    · subst e; rw [if_pos rfl]; exact ⟨hv.1, hv.2, fun q => absurd q hc⟩
    · rw [if_neg e]; exact this⟩

theorem Cells.took {n : Nat} {cs ps : List Int} (h : Cells n cs ps) (v : Int) (hv : 0 ≤ v ∧ v ≤ 999) (hf : firstFree cs < cs.length) : Cells n (tookC cs) (tookP cs ps v) ∧ ∀ k, k < n → (tookC cs).getD k 0 = cs.getD k 0 + (if tookAt cs = (k : Int) then 1 else 0) := by
  have hc := h.c
  have h0 := firstFree_at cs hf
  unfold tookC tookP tookAt
  rw [if_pos hf, if_pos hf, if_pos hf]
  have g : ∀ k, (cs.set (firstFree cs) 1).getD k 0 = if firstFree cs = k then 1 else cs.getD k 0 := fun k => getD_set cs _ k _ hf
  refine ⟨⟨by simpa using hc, by simpa using h.p, fun k hk => ?_⟩, fun k hk => ?_⟩
  · rw [g, getD_set ps _ k v (by rw [h.p]; omega)]
    have := h.val k hk
    by_cases e : firstFree cs = k
    · rw [if_pos e, if_pos e]; exact ⟨hv.1, hv.2, fun q => by omega⟩
    · rw [if_neg e, if_neg e]; exact this
  · rw [g]
    by_cases e : firstFree cs = k
    · subst e; rw [if_pos rfl, if_pos rfl]; omega
    · rw [if_neg e, if_neg (by omega)]; omega
end Go.Proofs.YtibhepekmihagaaGreatDoor

