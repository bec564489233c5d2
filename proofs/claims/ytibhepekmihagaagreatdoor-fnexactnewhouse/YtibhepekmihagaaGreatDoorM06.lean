/-
  Contracts and plain laws, one chapter behind the other.
-/
import Derived.Deep.RegionLaw
import Derived.Test.YtibhepekmihagaaGreatDoorM02
import Derived.Test.YtibhepekmihagaaGreatDoorM04
import Derived.Test.YtibhepekmihagaaGreatDoorM05
namespace Go.Proofs.YtibhepekmihagaaGreatDoor
open Go.RowKit

set_option linter.unusedVariables false

set_option maxRecDepth 100000

def cutAt (l : List Int) (n : Int) : List Int := (List.range 16).map fun k : Nat => if (k : Int) < n then l.getD k 0 else -1

def pagesOf (rs : List (Int × Int × Int)) : List Int := if mapOk rs = true then (pages rs).filter (fun p => decide (0 ≤ p)) else []

theorem getD_set16 (l : List Int) (k j : Nat) (x : Int) (h : k < l.length) : (l.set k x).getD j 0 = if k = j then x else l.getD j 0 := by
  rw [List.getD_eq_getElem?_getD, List.getElem?_set, List.getD_eq_getElem?_getD]
  by_cases e : k = j
  · subst e; simp [h]
  · simp [e]

theorem set_range (rs : List (Int × Int × Int)) (h : mapOk rs = true) (k : Nat) (hk : k < 16) (page : Int) (hp : -1 ≤ page ∧ page ≤ 23) : ∀ j, j < 16 → -1 ≤ ((pages rs).set k page).getD j 0 ∧ ((pages rs).set k page).getD j 0 ≤ 23 := fun j hj => by
  rw [getD_set16 _ _ _ _ (by rw [pages_length]; exact hk)]
  by_cases e : k = j
  · rw [if_pos e]; exact hp
  · rw [if_neg e]; exact pages_range rs h j hj

/-- A row of no runs, at the end of memory. -/
theorem own_none (w : World) : (w.alloc (.cells #[] 185)).ownsRow w.heap.size 185 3 (.slice (some ⟨w.heap.size, 0, none⟩) 0 0) 0 [] := World.ownsRow_lit w #[] 0 (Nat.le_refl _) (Nat.zero_le _) rfl
end Go.Proofs.YtibhepekmihagaaGreatDoor

namespace Go.Proofs.YtibhepekmihagaaGreatDoor
open Go.RowKit

set_option linter.unusedVariables false

set_option maxRecDepth 100000

theorem cutAt_length (l : List Int) (n : Int) : (cutAt l n).length = 16 := by simp [cutAt]

theorem cutAt_get (l : List Int) (n : Int) (j : Nat) (hj : j < 16) : (cutAt l n).getD j 0 = if (j : Int) < n then l.getD j 0 else -1 := by
  rw [List.getD_eq_getElem?_getD, cutAt, List.getElem?_map, List.getElem?_range hj]; rfl

theorem cutAt_range (rs : List (Int × Int × Int)) (h : mapOk rs = true) (n : Int) : ∀ j, j < 16 → -1 ≤ (cutAt (pages rs) n).getD j 0 ∧ (cutAt (pages rs) n).getD j 0 ≤ 23 := fun j hj => by
  rw [cutAt_get _ _ _ hj]
  by_cases e : (j : Int) < n
  · rw [if_pos e]; exact pages_range rs h j hj
  · rw [if_neg e]; omega
end Go.Proofs.YtibhepekmihagaaGreatDoor

namespace Go.Proofs.YtibhepekmihagaaGreatDoor
open Go.RowKit

set_option linter.unusedVariables false

set_option maxRecDepth 100000


/-! ### Names in their order -/
def ltB (a b : ByteArray) : Bool := Op.bytesLess a.toList b.toList

theorem less_trans : ∀ (x y z : List UInt8), Op.bytesLess x y = true → Op.bytesLess y z = true → Op.bytesLess x z = true := by
  intro x
  induction x with
  | nil =>
    intro y z h1 h2
    cases z with
    | nil => cases y <;> simp [Op.bytesLess] at h2
    | cons c w => rfl
  | cons a t ih =>
    intro y z h1 h2
    cases y with
    | nil => simp [Op.bytesLess] at h1
    | cons b u =>
      cases z with
      | nil => simp [Op.bytesLess] at h2
      | cons c w =>
        simp only [Op.bytesLess, Bool.or_eq_true, decide_eq_true_eq, Bool.and_eq_true, beq_iff_eq] at h1 h2 ⊢
        rcases h1 with h1 | ⟨rfl, h1⟩
        · rcases h2 with h2 | ⟨rfl, h2⟩
          · exact .inl (UInt8.lt_trans h1 h2)
          · exact .inl h1
        · rcases h2 with h2 | ⟨rfl, h2⟩
          · exact .inl h2
          · exact .inr ⟨rfl, ih u w h1 h2⟩

theorem less_total : ∀ (x y : List UInt8), Op.bytesLess x y = false → Op.bytesLess y x = false → x = y := by
  intro x
  induction x with
  | nil =>
    intro y h1 h2
    cases y with
    | nil => rfl
    | cons b u => simp [Op.bytesLess] at h1
  | cons a t ih =>
    intro y h1 h2
    cases y with
    | nil => simp [Op.bytesLess] at h2
    | cons b u =>
      simp only [Op.bytesLess, Bool.or_eq_false_iff, decide_eq_false_iff_not, Bool.and_eq_false_iff, beq_eq_false_iff_ne] at h1 h2
      have hab : a = b := by
        rcases UInt8.lt_or_eq_of_le (UInt8.not_lt.1 h1.1) with h | h
        · exact absurd h h2.1
        · exact h.symm
      subst hab
      rw [ih u (h1.2.resolve_left (fun h => h rfl)) (h2.2.resolve_left (fun h => h rfl))]

theorem ltB_trans {a b c : ByteArray} (h1 : ltB a b = true) (h2 : ltB b c = true) : ltB a c = true := less_trans _ _ _ h1 h2

theorem toList_inj {a b : ByteArray} (h : a.toList = b.toList) : a = b := by
  apply ext_list
  rwa [ByteArray.toList_eq, ByteArray.toList_eq] at h

theorem ltB_total {a b : ByteArray} (h1 : ltB a b = false) (h2 : ltB b a = false) : a = b := toList_inj (less_total _ _ h1 h2)

/-! ### Books, counted -/
structure Pb where
  nm : ByteArray
  sz : Int
  rs : List (Int × Int × Int)
  fx : Bool
  ep : Int

def Pb.ok (b : Pb) : Bool := bookOk b.nm b.sz b.rs b.ep

/-- How many places of a book have that page. -/
def Pb.cnt (b : Pb) (p : Int) : Int := ((pages b.rs).count p : Int)

def cntAll (bs : List Pb) (p : Int) : Int := bs.foldr (fun b n => b.cnt p + n) 0

theorem cnt_nonneg (b : Pb) (p : Int) : 0 ≤ b.cnt p := by unfold Pb.cnt; omega

theorem cnt_le (b : Pb) (p : Int) : b.cnt p ≤ 16 := by
  unfold Pb.cnt
  have := List.count_le_length (a := p) (l := pages b.rs)
  rw [pages_length] at this
  omega

theorem cntAll_cons (b : Pb) (bs : List Pb) (p : Int) : cntAll (b :: bs) p = b.cnt p + cntAll bs p := rfl

theorem cntAll_append (xs ys : List Pb) (p : Int) : cntAll (xs ++ ys) p = cntAll xs p + cntAll ys p := by
  induction xs with
  | nil => simp [cntAll]
  | cons b t ih => rw [List.cons_append, cntAll_cons, cntAll_cons, ih]; omega

theorem cntAll_nonneg (bs : List Pb) (p : Int) : 0 ≤ cntAll bs p := by
  induction bs with
  | nil => simp [cntAll]
  | cons b t ih => rw [cntAll_cons]; have := cnt_nonneg b p; omega

theorem cntAll_le (bs : List Pb) (p : Int) : cntAll bs p ≤ 16 * bs.length := by
  induction bs with
  | nil => simp [cntAll]
  | cons b t ih => rw [cntAll_cons, List.length_cons]; have := cnt_le b p; omega

theorem cntAll_split (bs : List Pb) (i : Nat) (h : i < bs.length) (p : Int) : cntAll bs p = cntAll (bs.take i) p + bs[i].cnt p + cntAll (bs.drop (i + 1)) p := by
  have e : bs = bs.take i ++ (bs[i] :: bs.drop (i + 1)) := by rw [← List.drop_eq_getElem_cons h, List.take_append_drop]
  have q := congrArg (fun l => cntAll l p) e
  simp only [cntAll_append, cntAll_cons] at q
  omega

theorem cntAll_at (bs : List Pb) (i : Nat) (h : i < bs.length) (p : Int) : bs[i].cnt p ≤ cntAll bs p := by
  have := cntAll_split bs i h p
  have := cntAll_nonneg (bs.take i) p
  have := cntAll_nonneg (bs.drop (i + 1)) p
  omega

theorem cntAll_set (bs : List Pb) (i : Nat) (h : i < bs.length) (b : Pb) (p : Int) : cntAll (bs.set i b) p = cntAll bs p - bs[i].cnt p + b.cnt p := by
  have h' : i < (bs.set i b).length := by simpa using h
  have e1 := cntAll_split bs i h p
  have e2 := cntAll_split (bs.set i b) i h' p
  rw [List.take_set_of_le (Nat.le_refl _), List.getElem_set_self, List.drop_set_of_lt (show i < i + 1 by omega)] at e2
  omega

theorem cntAll_erase (bs : List Pb) (i : Nat) (h : i < bs.length) (p : Int) : cntAll (bs.take i ++ bs.drop (i + 1)) p = cntAll bs p - bs[i].cnt p := by
  rw [cntAll_append]
  have := cntAll_split bs i h p
  omega

theorem cntAll_insert (bs : List Pb) (k : Nat) (b : Pb) (p : Int) : cntAll (bs.take k ++ [b] ++ bs.drop k) p = cntAll bs p + b.cnt p := by
  rw [cntAll_append, cntAll_append, cntAll_cons]
  have e : cntAll bs p = cntAll (bs.take k) p + cntAll (bs.drop k) p := by rw [← cntAll_append, List.take_append_drop]
  have : cntAll ([] : List Pb) p = 0 := rfl
  omega

/-! ### A pool, its pages dropped and shared -/

/-- Rows of one length; values in range; what nobody has is 0. -/
structure Cells (n : Nat) (cs ps : List Int) : Prop where
  c : cs.length = n
  p : ps.length = n
  val : ∀ k, k < n → 0 ≤ ps.getD k 0 ∧ ps.getD k 0 ≤ 999 ∧ (cs.getD k 0 = 0 → ps.getD k 0 = 0)

def dropOne (s : List Int × List Int) (p : Int) : List Int × List Int :=
  if 0 ≤ p then (s.1.set p.toNat (s.1.getD p.toNat 0 - 1), if s.1.getD p.toNat 0 = 1 then s.2.set p.toNat 0 else s.2) else s

def dropAll (s : List Int × List Int) (l : List Int) : List Int × List Int := l.foldl dropOne s

def shareAll (cs : List Int) (l : List Int) : List Int := l.foldl (fun cs p => cs.set p.toNat (cs.getD p.toNat 0 + 1)) cs

theorem dropOne_ok {n : Nat} {cs ps : List Int} (h : Cells n cs ps) (k : Nat) (hk : k < n) (h1 : 1 ≤ cs.getD k 0) : Cells n (dropOne (cs, ps) k).1 (dropOne (cs, ps) k).2 ∧ ∀ j, (dropOne (cs, ps) k).1.getD j 0 = if k = j then cs.getD j 0 - 1 else cs.getD j 0 := by
  have hc := h.c
  have hp := h.p
  unfold dropOne
  rw [if_pos (by omega : (0 : Int) ≤ (k : Int)), Int.toNat_natCast]
  simp only
  have hg : ∀ j, (cs.set k (cs.getD k 0 - 1)).getD j 0 = if k = j then cs.getD j 0 - 1 else cs.getD j 0 := fun j => by
    rw [getD_set cs k j _ (by omega)]
    split
    · rename_i e; rw [e]
    · rfl
  refine ⟨⟨by simpa using hc, by split <;> simpa using hp, fun j hj => ?_⟩, hg⟩
  have hv := h.val j hj
  rw [hg]
  by_cases e : k = j
  · subst e
    by_cases e1 : cs.getD k 0 = 1
    · rw [if_pos e1, getD_set ps k k _ (by omega), if_pos rfl]
      exact ⟨by omega, by omega, fun _ => rfl⟩
    · rw [if_neg e1, if_pos rfl]
      exact ⟨hv.1, hv.2.1, fun q => by omega⟩
  · rw [if_neg e]
    by_cases e1 : cs.getD k 0 = 1
    · rw [if_pos e1, getD_set ps k j _ (by omega), if_neg e]
      exact hv
    · rw [if_neg e1]
      exact hv

theorem dropAll_ok {n : Nat} (l : List Int) : ∀ {cs ps : List Int}, Cells n cs ps → (∀ p ∈ l, p < n) → (∀ k, k < n → (l.count (k : Int) : Int) ≤ cs.getD k 0) →
    Cells n (dropAll (cs, ps) l).1 (dropAll (cs, ps) l).2 ∧ ∀ k, k < n → (dropAll (cs, ps) l).1.getD k 0 = cs.getD k 0 - (l.count (k : Int) : Int) := by
  induction l with
  | nil => intro cs ps h _ _; exact ⟨h, fun k hk => by simp [dropAll]⟩
  | cons p t ih =>
    intro cs ps h hp hc
    have hpt : ∀ q ∈ t, q < n := fun q hq => hp q (List.mem_cons_of_mem _ hq)
    by_cases h0 : 0 ≤ p
    · obtain ⟨m, rfl⟩ := Int.eq_ofNat_of_zero_le h0
      have hm : m < n := by have := hp (m : Int) (List.mem_cons_self ..); omega
      have h1 : 1 ≤ cs.getD m 0 := by
        have := hc m hm
        rw [List.count_cons_self] at this
        omega
      obtain ⟨c1, g1⟩ := dropOne_ok h m hm h1
      have e : dropAll (cs, ps) ((m : Int) :: t) = dropAll ((dropOne (cs, ps) m).1, (dropOne (cs, ps) m).2) t := rfl
      have hct : ∀ k, k < n → (t.count (k : Int) : Int) ≤ (dropOne (cs, ps) m).1.getD k 0 := fun k hk => by
        have := hc k hk
        rw [List.count_cons] at this
        rw [g1]
        by_cases ek : m = k
        · subst ek; rw [if_pos rfl]; rw [beq_self_eq_true, if_pos rfl] at this; omega
        · rw [if_neg ek]
          have hne : ((m : Int) == (k : Int)) = false := by rw [beq_eq_false_iff_ne]; omega
          rw [hne, if_neg (by decide)] at this
          omega
      obtain ⟨c2, g2⟩ := ih c1 hpt hct
      rw [e]
      refine ⟨c2, fun k hk => ?_⟩
      rw [g2 k hk, g1, List.count_cons]
      by_cases ek : m = k
      · subst ek; rw [if_pos rfl, beq_self_eq_true, if_pos rfl]; omega
      · rw [if_neg ek]
        have hne : ((m : Int) == (k : Int)) = false := by rw [beq_eq_false_iff_ne]; omega
        rw [hne, if_neg (by decide)]
        omega
    · have e : dropAll (cs, ps) (p :: t) = dropAll (cs, ps) t := by
        show dropAll (dropOne (cs, ps) p) t = _
        rw [dropOne, if_neg h0]
      have hcp : ∀ k : Nat, (p :: t).count (k : Int) = t.count (k : Int) := fun k => by
        rw [List.count_cons]
        have hne : (p == (k : Int)) = false := by rw [beq_eq_false_iff_ne]; omega
        rw [hne, if_neg (by decide)]
        rfl
      rw [e]
      obtain ⟨c2, g2⟩ := ih h hpt (fun k hk => by rw [← hcp]; exact hc k hk)
      exact ⟨c2, fun k hk => by rw [g2 k hk, hcp]⟩

theorem shareAll_ok {n : Nat} (l : List Int) : ∀ {cs ps : List Int}, Cells n cs ps → (∀ p ∈ l, 0 ≤ p ∧ p < n) → (∀ p ∈ l, 1 ≤ cs.getD p.toNat 0) →
    Cells n (shareAll cs l) ps ∧ ∀ k, k < n → (shareAll cs l).getD k 0 = cs.getD k 0 + (l.count (k : Int) : Int) := by
  induction l with
  | nil => intro cs ps h _ _; exact ⟨h, fun k hk => by simp [shareAll]⟩
  | cons p t ih =>
    intro cs ps h hp hc
    obtain ⟨h0, hm⟩ := hp p (List.mem_cons_self ..)
    obtain ⟨m, rfl⟩ := Int.eq_ofNat_of_zero_le h0
    have h1 := hc (m : Int) (List.mem_cons_self ..)
    rw [Int.toNat_natCast] at h1
    have hc' := h.c
    have g1 : ∀ j, (cs.set m (cs.getD m 0 + 1)).getD j 0 = if m = j then cs.getD j 0 + 1 else cs.getD j 0 := fun j => by
      rw [getD_set cs m j _ (by omega)]
      split
      · rename_i e; rw [e]
      · rfl
    have c1 : Cells n (cs.set m (cs.getD m 0 + 1)) ps := ⟨by simpa using hc', h.p, fun k hk => by
      have hv := h.val k hk
      refine ⟨hv.1, hv.2.1, fun q => hv.2.2 ?_⟩
      rw [g1] at q
      by_cases e : m = k
      · subst e; rw [if_pos rfl] at q; omega
      · rwa [if_neg e] at q⟩
    have e : shareAll cs ((m : Int) :: t) = shareAll (cs.set m (cs.getD m 0 + 1)) t := rfl
    obtain ⟨c2, g2⟩ := ih c1 (fun q hq => hp q (List.mem_cons_of_mem _ hq)) (fun q hq => by
      have := hc q (List.mem_cons_of_mem _ hq)
      rw [g1]
      split <;> omega)
    rw [e]
    refine ⟨c2, fun k hk => ?_⟩
    rw [g2 k hk, g1, List.count_cons]
    by_cases ek : m = k
    · subst ek; rw [if_pos rfl, beq_self_eq_true, if_pos rfl]; omega
    · rw [if_neg ek]
      have hne : ((m : Int) == (k : Int)) = false := by rw [beq_eq_false_iff_ne]; omega
      rw [hne, if_neg (by decide)]
      omega
end Go.Proofs.YtibhepekmihagaaGreatDoor

