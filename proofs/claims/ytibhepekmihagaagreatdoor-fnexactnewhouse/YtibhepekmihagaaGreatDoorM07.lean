/-
  Contracts and plain laws, one chapter behind the other.
-/
import Derived.Deep.RegionHeld3
import Derived.LaidEql
import Derived.Stop.Asserts
import Derived.RowKitTokens
import Derived.RangeFuncBox
import Derived.Tactics
import Derived.Tactics2
import Derived.Defers
import Derived.Recover
import Derived.Laws.Pointers
import Derived.WalkLawsBesides
import Derived.Test.YtibhepekmihagaaGreatDoorM02
import Derived.Test.YtibhepekmihagaaGreatDoorM03
import Derived.Test.YtibhepekmihagaaGreatDoorM05
import Derived.Test.YtibhepekmihagaaGreatDoorM06
namespace Go.Proofs.YtibhepekmihagaaGreatDoor
open Go.RowKit

set_option linter.unusedVariables false

set_option maxRecDepth 100000


/-! ### A book's end, by its pages -/
theorem ends_of (l : List Int) (hl : l.length = 16) (hv : ∀ j, j < 16 → -1 ≤ l.getD j 0 ∧ l.getD j 0 ≤ 23) (sz : Nat) (hs : sz ≤ 16) (h : ∀ j, sz ≤ j → j < 16 → l.getD j 0 < 0) : endsBy (mapOf l) sz = true := by
  have e : mapOf l = upto l sz := by
    rw [mapOf, hl, show 16 = sz + (16 - sz) by omega]
    exact upto_skip l sz (16 - sz) (fun j h1 h2 => h j h1 (by omega))
  rw [e, endsBy]
  have u := upto_ok l hl hv sz hs
  cases hq : (upto l sz).getLast? with
  | none => rfl
  | some r => exact decide_eq_true (u.endAt r hq).1

theorem ok_last (rs : List (Int × Int × Int)) : ∀ (e : Int) (pv : Option (Int × Int × Int)), okFrom e pv rs = true → ∀ r ∈ rs, ∀ z, rs.getLast? = some z → r.1 + r.2.1 ≤ z.1 + z.2.1 := by
  induction rs with
  | nil => intro e pv _ r hr; cases hr
  | cons q t ih =>
    intro e pv h r hr z hz
    obtain ⟨f, c, p⟩ := q
    rw [okFrom, Bool.and_eq_true, runOk_iff] at h
    obtain ⟨⟨h1, h2, h3, h4, h5, h6, h7⟩, h8⟩ := h
    cases t with
    | nil =>
      simp at hz hr
      subst hz hr
      exact Int.le_refl _
    | cons q2 t2 =>
      rw [List.getLast?_cons_cons] at hz
      rcases List.mem_cons.1 hr with rfl | hr
      · have hq2 := ih _ _ h8 q2 (List.mem_cons_self ..) z hz
        obtain ⟨f2, c2, p2⟩ := q2
        rw [okFrom, Bool.and_eq_true, runOk_iff] at h8
        simp only at h8 hq2 ⊢
        omega
      · exact ih _ _ h8 r hr z hz

theorem ends_to (rs : List (Int × Int × Int)) (sz : Int) (hm : mapOk rs = true) (he : endsBy rs sz = true) (j : Nat) (hj : j < 16) (hs : sz ≤ j) : (pages rs).getD j 0 = -1 := by
  obtain ⟨h1, -⟩ := fold_at rs 0 none (mapOk_from hm) (by omega) none16 rfl
  show (rs.foldl layRun none16).getD j 0 = -1
  rw [h1 j ?_, none16_at j hj]
  intro r hr hc
  cases hq : rs.getLast? with
  | none => rw [List.getLast?_eq_none_iff] at hq; subst hq; cases hr
  | some z =>
    have := ok_last rs 0 none (mapOk_from hm) r hr z hq
    rw [endsBy, hq] at he
    have := of_decide_eq_true he
    omega

/-! ### A shelf -/
structure Sf where
  cs : List Int
  ps : List Int
  bs : List Pb

structure ShInv (s : Sf) : Prop where
  n1 : 1 ≤ s.cs.length ∧ s.cs.length ≤ 24
  cells : Cells s.cs.length s.cs s.ps
  few : s.bs.length ≤ 6
  oks : ∀ b ∈ s.bs, b.ok = true
  srt : (s.bs.map Pb.nm).Pairwise (fun a b => ltB a b = true)
  cnt : ∀ k : Nat, k < s.cs.length → s.cs.getD k 0 = cntAll s.bs (k : Int)
  out : ∀ k : Nat, s.cs.length ≤ k → k < 24 → cntAll s.bs (k : Int) = 0

theorem book_parts {b : Pb} (h : b.ok = true) : Nums.nameB b.nm.data.toList = true ∧ (1 ≤ b.sz ∧ b.sz ≤ 16) ∧ (0 ≤ b.ep ∧ b.ep ≤ 1000) ∧ mapOk b.rs = true ∧ endsBy b.rs b.sz = true := by
  simp only [Pb.ok, bookOk, Bool.and_eq_true, decide_eq_true_eq] at h
  exact ⟨h.1.1.1.1, h.1.1.1.2, h.1.1.2, h.1.2, h.2⟩

theorem book_mk {b : Pb} (h1 : Nums.nameB b.nm.data.toList = true) (h2 : 1 ≤ b.sz ∧ b.sz ≤ 16) (h3 : 0 ≤ b.ep ∧ b.ep ≤ 1000) (h4 : mapOk b.rs = true) (h5 : endsBy b.rs b.sz = true) : b.ok = true := by
  simp only [Pb.ok, bookOk, Bool.and_eq_true, decide_eq_true_eq]
  exact ⟨⟨⟨⟨h1, h2⟩, h3⟩, h4⟩, h5⟩

theorem mem_getD (l : List Int) (hl : l.length = 16) (p : Int) : p ∈ l ↔ ∃ j, j < 16 ∧ l.getD j 0 = p := by
  rw [List.mem_iff_getElem]
  constructor
  · rintro ⟨j, hj, rfl⟩; exact ⟨j, by omega, getD_of l j hj⟩
  · rintro ⟨j, hj, rfl⟩; exact ⟨j, by omega, (getD_of l j (by omega)).symm⟩

/-- A page that a book has lies in the pool. -/
theorem ShInv.page {s : Sf} (h : ShInv s) (i : Nat) (hi : i < s.bs.length) (p : Int) (hp : p ∈ pages s.bs[i].rs) (h0 : 0 ≤ p) : p < s.cs.length ∧ 1 ≤ s.cs.getD p.toNat 0 := by
  have hm := (book_parts (h.oks _ (List.getElem_mem hi))).2.2.2.1
  obtain ⟨j, hj, rfl⟩ := (mem_getD _ (pages_length _) p).1 hp
  have hr := (pages_range _ hm j hj).2
  generalize (pages s.bs[i].rs).getD j 0 = p at *
  obtain ⟨m, rfl⟩ := Int.eq_ofNat_of_zero_le h0
  have hc := cntAll_at s.bs i hi (m : Int)
  have h1 : 1 ≤ s.bs[i].cnt (m : Int) := by
    unfold Pb.cnt
    have := List.count_pos_iff.2 hp
    omega
  rw [Int.toNat_natCast]
  by_cases hl : m < s.cs.length
  · have := h.cnt m hl; omega
  · have := h.out m (by omega) (by omega); omega

theorem cnt_le_cs {s : Sf} (h : ShInv s) (i : Nat) (hi : i < s.bs.length) (k : Nat) (hk : k < s.cs.length) : s.bs[i].cnt (k : Int) ≤ s.cs.getD k 0 := by
  rw [h.cnt k hk]
  exact cntAll_at s.bs i hi _

/-! ### What is done -/
def findP (bs : List Pb) (n : ByteArray) : Int := findFrom n (bs.map Pb.nm) 0

def insertAt (bs : List Pb) (n : ByteArray) : Nat := (bs.takeWhile fun x => ltB x.nm n).length

def insertP (bs : List Pb) (b : Pb) : List Pb := bs.take (insertAt bs b.nm) ++ [b] ++ bs.drop (insertAt bs b.nm)

def bookAt (bs : List Pb) (i : Int) : Pb := bs.getD i.toNat ⟨ByteArray.empty, 0, [], false, 0⟩

def refused (bs : List Pb) (o : Oq) : Int :=
  if o.k ≠ 1 ∧ findP bs o.nm < 0 then 2
  else if (o.k = 1 ∧ 0 ≤ findP bs o.nm) ∨ (kOther o.k = true ∧ 0 ≤ findP bs o.ot) then 3
  else if o.k = 1 then (if bs.length = 6 then 7 else 0)
  else if kEpoch o.k = true ∧ o.ep < (bookAt bs (findP bs o.nm)).ep then 4
  else if kEpoch o.k = true ∧ o.k ≠ 6 ∧ (bookAt bs (findP bs o.nm)).fx = true then 5
  else if kAt o.k = true ∧ (bookAt bs (findP bs o.nm)).sz ≤ o.at_ then 6
  else if kOther o.k = true ∧ bs.length = 6 then 7
  else if o.k = 8 ∧ (bookAt bs (findP bs o.nm)).ep = 1000 then 8
  else 0

/-- All pages of a book from a place on are dropped. -/
def cutBook (s : Sf) (i : Nat) (size : Nat) : Sf :=
  ⟨(dropAll (s.cs, s.ps) ((pages (bookAt s.bs i).rs).drop size)).1, (dropAll (s.cs, s.ps) ((pages (bookAt s.bs i).rs).drop size)).2, s.bs.set i { bookAt s.bs i with rs := mapOf (cutAt (pages (bookAt s.bs i).rs) size) }⟩

def doWrite (s : Sf) (i : Nat) (b : Pb) (o : Oq) (page : Int) : Sf × (Int × Int) :=
  if 0 ≤ page ∧ s.cs.getD page.toNat 0 = 1 then (⟨s.cs, s.ps.set page.toNat o.va, s.bs⟩, (0, 0))
  else if firstFree s.cs < s.cs.length then
    (⟨(dropOne (tookC s.cs, tookP s.cs s.ps o.va) page).1, (dropOne (tookC s.cs, tookP s.cs s.ps o.va) page).2, s.bs.set i { b with rs := mapOf ((pages b.rs).set o.at_.toNat (tookAt s.cs)) }⟩, (0, 0))
  else (s, (9, 0))

def doKind (s : Sf) (o : Oq) (i : Nat) (b : Pb) (page : Int) : Sf × (Int × Int) :=
  if o.k = 9 then (s, (0, if page < 0 then 0 else s.ps.getD page.toNat 0))
  else if o.k = 8 then (⟨s.cs, s.ps, s.bs.set i { b with ep := b.ep + 1 }⟩, (0, b.ep + 1))
  else if o.k = 7 then (⟨(cutBook s i o.va.toNat).cs, (cutBook s i o.va.toNat).ps, (cutBook s i o.va.toNat).bs.set i { bookAt (cutBook s i o.va.toNat).bs i with sz := o.va }⟩, (0, 0))
  else if o.k = 3 then (if 0 ≤ page then (⟨(dropOne (s.cs, s.ps) page).1, (dropOne (s.cs, s.ps) page).2, s.bs.set i { b with rs := mapOf ((pages b.rs).set o.at_.toNat (-1)) }⟩, (0, 0)) else (s, (0, 0)))
  else doWrite s i b o page

def doOp (s : Sf) (o : Oq) : Sf × (Int × Int) :=
  if opOk o = false then (s, (1, 0))
  else if refused s.bs o ≠ 0 then (s, (refused s.bs o, 0))
  else if o.k = 1 then (⟨s.cs, s.ps, insertP s.bs ⟨o.nm, o.va, [], false, 0⟩⟩, (0, 0))
  else if o.k = 6 then (⟨(cutBook s (findP s.bs o.nm).toNat 0).cs, (cutBook s (findP s.bs o.nm).toNat 0).ps, s.bs.take (findP s.bs o.nm).toNat ++ s.bs.drop ((findP s.bs o.nm).toNat + 1)⟩, (0, 0))
  else if kOther o.k = true then (⟨shareAll s.cs (pagesOf (bookAt s.bs (findP s.bs o.nm)).rs), s.ps, insertP s.bs ⟨o.ot, (bookAt s.bs (findP s.bs o.nm)).sz, (bookAt s.bs (findP s.bs o.nm)).rs, decide (o.k = 4), 0⟩⟩, (0, 0))
  else doKind s o (findP s.bs o.nm).toNat (bookAt s.bs (findP s.bs o.nm)) (if o.at_ < 16 then (pages (bookAt s.bs (findP s.bs o.nm)).rs).getD o.at_.toNat 0 else -1)

/-! ### It stays right -/
theorem find_in (bs : List Pb) (n : ByteArray) (h : ¬ findP bs n < 0) : ∃ (i : Nat) (hi : i < bs.length), findP bs n = i ∧ bs[i].nm = n := by
  rcases find_range n (bs.map Pb.nm) 0 with h1 | ⟨h1, h2, h3⟩
  · exact absurd (show findP bs n < 0 by rw [findP, h1]; omega) h
  · have hf : findFrom n (bs.map Pb.nm) 0 = findP bs n := rfl
    rw [hf] at h1 h2 h3
    simp only [List.length_map, Nat.sub_zero] at h2 h3
    refine ⟨(findP bs n).toNat, by omega, by omega, ?_⟩
    rw [List.getElem?_map, List.getElem?_eq_getElem (show (findP bs n).toNat < bs.length by omega)] at h3
    simpa using h3

theorem find_not (bs : List Pb) (n : ByteArray) (h : findP bs n < 0) (b : Pb) (hb : b ∈ bs) : b.nm ≠ n := by
  intro e
  obtain ⟨j, hj, rfl⟩ := List.getElem_of_mem hb
  have := find_first n (bs.map Pb.nm) 0 j (by simp [hj, e])
  have hf : findFrom n (bs.map Pb.nm) 0 = findP bs n := rfl
  rw [hf] at this
  omega

theorem bookAt_of (bs : List Pb) (i : Nat) (h : i < bs.length) : bookAt bs i = bs[i] := by
  unfold bookAt
  rw [Int.toNat_natCast, List.getD_eq_getElem?_getD, List.getElem?_eq_getElem h]
  rfl

theorem insert_sorted (bs : List Pb) (b : Pb) (hs : (bs.map Pb.nm).Pairwise (fun a b => ltB a b = true)) (hn : ∀ x ∈ bs, x.nm ≠ b.nm) : ((insertP bs b).map Pb.nm).Pairwise (fun a b => ltB a b = true) := by
  have key : ∀ (l : List Pb), (l.map Pb.nm).Pairwise (fun a b => ltB a b = true) → (∀ x ∈ l, x.nm ≠ b.nm) → insertP l b = (l.takeWhile fun x => ltB x.nm b.nm) ++ [b] ++ (l.dropWhile fun x => ltB x.nm b.nm) := fun l _ _ => by
    unfold insertP insertAt
    have e : l = (l.takeWhile fun x => ltB x.nm b.nm) ++ (l.dropWhile fun x => ltB x.nm b.nm) := (List.takeWhile_append_dropWhile).symm
    generalize hT : (l.takeWhile fun x => ltB x.nm b.nm) = T at *
    generalize hD : (l.dropWhile fun x => ltB x.nm b.nm) = D at *
    rw [e, List.take_left, List.drop_left]
  rw [key bs hs hn]
  clear key
  induction bs with
  | nil => simp
  | cons a t ih =>
    have hs' := List.pairwise_cons.1 (show (a.nm :: t.map Pb.nm).Pairwise _ from hs)
    by_cases h : ltB a.nm b.nm = true
    · rw [List.takeWhile_cons, List.dropWhile_cons, h]
      simp only [if_true, List.cons_append, List.map_cons]
      rw [List.pairwise_cons]
      refine ⟨fun x hx => ?_, ih hs'.2 (fun x hx => hn x (List.mem_cons_of_mem _ hx))⟩
      simp only [List.map_append, List.mem_append, List.map_cons, List.map_nil, List.mem_singleton] at hx
      rcases hx with (hx | rfl) | hx
      · obtain ⟨y, hy, rfl⟩ := List.mem_map.1 hx
        exact hs'.1 _ (List.mem_map_of_mem ((List.takeWhile_sublist _).subset hy))
      · exact h
      · obtain ⟨y, hy, rfl⟩ := List.mem_map.1 hx
        exact hs'.1 _ (List.mem_map_of_mem ((List.dropWhile_sublist _).subset hy))
    · rw [List.takeWhile_cons, List.dropWhile_cons]
      have h' : ltB a.nm b.nm = false := by simpa using h
      rw [h']
      simp only [Bool.false_eq_true, if_false, List.nil_append, List.singleton_append, List.map_cons]
      rw [List.pairwise_cons]
      have hba : ltB b.nm a.nm = true := by
        cases hq : ltB b.nm a.nm
        · exact absurd (ltB_total h' hq) (hn a (List.mem_cons_self ..))
        · rfl
      refine ⟨fun x hx => ?_, hs⟩
      rcases List.mem_cons.1 hx with rfl | hx
      · exact hba
      · exact ltB_trans hba (hs'.1 x hx)
end Go.Proofs.YtibhepekmihagaaGreatDoor

namespace Go.Proofs.YtibhepekmihagaaGreatDoor
open Go.RowKit

set_option linter.unusedVariables false

set_option maxRecDepth 100000


/-- A cell of a block is written. -/
theorem set_at {W : World} {b : Nat} {cs : Array Value} {t : TypeId} (h : W.heap[b]? = some (.cells cs t (0, 0))) (i : Nat) (x : Value) : (W.setCell ⟨b, i, none⟩ x).heap[b]? = some (.cells (cs.setIfInBounds i x) t (0, 0)) := by
  obtain ⟨hlt, hk⟩ := Array.getElem?_eq_some_iff.1 h
  show (W.heap.modify b _)[b]? = _
  rw [Array.getElem?_eq_getElem (by rw [Array.size_modify]; exact hlt), Array.getElem_modify_self, hk]
  rfl
end Go.Proofs.YtibhepekmihagaaGreatDoor

namespace Go.Proofs.YtibhepekmihagaaGreatDoor
open Go.RowKit

set_option linter.unusedVariables false

set_option maxRecDepth 100000

set_option maxHeartbeats 1600000 in
theorem eqBook_same (nm : ByteArray) (sz : Int) (m m' : Value) (rs : List (Int × Int × Int)) (fx : Bool) (ep : Int) (w : World) (r : ReadsR 3 runC w.heap.size w m rs) (r' : ReadsR 3 runC w.heap.size w m' rs) :
    Calls Tryz.prog 96 #[.agg #[.string nm, .int .i64 sz, m, .bool fx, .int .i64 ep], .agg #[.string nm, .int .i64 sz, m', .bool fx, .int .i64 ep]] w fun e w' => e = .returned (.bool true) ∧ Below w.heap.size w w' := by
  obtain ⟨o, cap, rfl⟩ := r.form
  obtain ⟨o', cap', rfl⟩ := r'.form
  obtain ⟨W0, hW0, k0, k1, d0, z0⟩ := box2 w #[.string nm, .int .i64 sz, .slice o rs.length cap, .bool fx, .int .i64 ep] #[.string nm, .int .i64 sz, .slice o' rs.length cap', .bool fx, .int .i64 ep] 133 133
  have r0 := (r.below d0).mono d0.size
  have r1 := (r'.below d0).mono d0.size
  have HW0 : Hid (W0 = _) := hW0
  clear hW0 r r'
  go_enter Tryz.func96, Tryz.ntmps96
  go_wp2_with fail
  rw [← HW0.out]
  clear HW0
  refine (eqRuns_any _ _ rs rs _ r0 r1).mono ?_
  rintro e w1 ⟨rfl, b⟩
  replace k0 := (b.block _ (by omega)).trans k0
  replace k1 := (b.block _ (by omega)).trans k1
  replace d0 := bw_call d0 b
  have p3 := at_cell k0 3
  have p4 := at_cell k0 4
  have q3 := at_cell k1 3
  have q4 := at_cell k1 4
  simp only [decide_true]
  clear r0 r1 b k0 k1
  cases fx
  · go_wp2_with fail
    go_ret
    exact ⟨rfl, d0⟩
  · go_wp2_with fail
    go_ret
    exact ⟨rfl, d0⟩
end Go.Proofs.YtibhepekmihagaaGreatDoor

namespace Go.Proofs.YtibhepekmihagaaGreatDoor
open Go.RowKit

set_option linter.unusedVariables false

set_option maxRecDepth 100000


/-- All of a book but where its map lies. -/
def plainB (b : Bk) : ByteArray × Int × List (Int × Int × Int) × Bool × Int := (b.nm, b.sz, b.rs, b.fx, b.ep)

theorem plain_len {bs ms : List Bk} (h : ms.map plainB = bs.map plainB) : ms.length = bs.length := by simpa using congrArg List.length h

theorem plain_at {bs ms : List Bk} (h : ms.map plainB = bs.map plainB) (k : Nat) (h1 : k < ms.length) (h2 : k < bs.length) : plainB ms[k] = plainB bs[k] := by
  have e : (ms.map plainB)[k]? = (bs.map plainB)[k]? := by rw [h]
  simpa [h1, h2] using e

/-- A book's five cells in a row. -/
theorem five_cells {B : Nat} {w : World} {o : Option Addr} {bs : List Bk} (hc : ∀ i x, bs[i]? = some x → ∃ g off, o = some ⟨g, off, none⟩ ∧ g < B ∧ ∀ j u, (bookC x)[j]? = some u → w.cell? ⟨g, off + i * 5 + j, none⟩ = some u) (i : Nat) (hi : i < bs.length) :
    ∃ g off, o = some ⟨g, off, none⟩ ∧ g < B ∧ w.cell? ⟨g, off + i * 5, none⟩ = some (.string bs[i].nm) ∧ w.cell? ⟨g, off + i * 5 + 1, none⟩ = some (.int .i64 bs[i].sz) ∧ w.cell? ⟨g, off + i * 5 + 2, none⟩ = some bs[i].m ∧ w.cell? ⟨g, off + i * 5 + 3, none⟩ = some (.bool bs[i].fx) ∧ w.cell? ⟨g, off + i * 5 + 4, none⟩ = some (.int .i64 bs[i].ep) := by
  obtain ⟨g, off, e, hg, hx⟩ := hc i bs[i] (List.getElem?_eq_getElem hi)
  exact ⟨g, off, e, hg, hx 0 _ rfl, hx 1 _ rfl, hx 2 _ rfl, hx 3 _ rfl, hx 4 _ rfl⟩

theorem Tryz.infoBook : (Tryz.prog.info? 133).map (fun i => (i.zero, i.size, i.bytes)) = some (some (.agg #[.string ByteArray.empty, .int .i64 0, .slice none 0 0, .bool false, .int .i64 0]), 5, 64) := by kernel_rfl

theorem own_five {w : World} {base g n cap : Nat} {xs : List Bk} (h : w.ownsRow base 133 5 (.slice (some ⟨g, 0, none⟩) n cap) xs.length (xs.flatMap bookC)) (i : Nat) (hi : i < xs.length) :
    (w.cell? ⟨g, i * 5, none⟩ = some (.string xs[i].nm) ∧ w.cell? ⟨g, i * 5 + 1, none⟩ = some (.int .i64 xs[i].sz) ∧ w.cell? ⟨g, i * 5 + 2, none⟩ = some xs[i].m ∧ w.cell? ⟨g, i * 5 + 3, none⟩ = some (.bool xs[i].fx) ∧ w.cell? ⟨g, i * 5 + 4, none⟩ = some (.int .i64 xs[i].ep)) ∧ w.frozen? ⟨g, i * 5, none⟩ = false ∧ w.frozen? ⟨g, i * 5 + 1, none⟩ = false ∧ w.frozen? ⟨g, i * 5 + 2, none⟩ = false ∧ w.frozen? ⟨g, i * 5 + 3, none⟩ = false ∧ w.frozen? ⟨g, i * 5 + 4, none⟩ = false := by
  obtain ⟨a0, b0⟩ := own_cell bookC_len h i 0 _ (List.getElem?_eq_getElem hi) (by omega)
  obtain ⟨a1, b1⟩ := own_cell bookC_len h i 1 _ (List.getElem?_eq_getElem hi) (by omega)
  obtain ⟨a2, b2⟩ := own_cell bookC_len h i 2 _ (List.getElem?_eq_getElem hi) (by omega)
  obtain ⟨a3, b3⟩ := own_cell bookC_len h i 3 _ (List.getElem?_eq_getElem hi) (by omega)
  obtain ⟨a4, b4⟩ := own_cell bookC_len h i 4 _ (List.getElem?_eq_getElem hi) (by omega)
  exact ⟨⟨a0, a1, a2, a3, a4⟩, b0, b1, b2, b3, b4⟩

/-- A row of books of one's own: the row, and each map. -/
structure OwnB (base : Nat) (w : World) (v : Value) (bs : List Bk) : Prop where
  row : w.ownsRow base 133 5 v bs.length (bs.flatMap bookC)
  maps : ∀ b ∈ bs, w.ownsRow base 185 3 b.m b.rs.length (b.rs.flatMap runC)

theorem OwnB.reads {base : Nat} {w : World} {v : Value} {bs : List Bk} (h : OwnB base w v bs) : ReadsB w.heap.size w v bs := ⟨ReadsR.of_own bookC_len h.row, fun b hb => ReadsR.of_own runC_len (h.maps b hb)⟩

theorem OwnB.below {base : Nat} {w w' : World} {v : Value} {bs : List Bk} (h : OwnB base w v bs) (k : Below w.heap.size w w') : OwnB base w' v bs := ⟨owns_below h.row k, fun b hb => owns_below (h.maps b hb) k⟩

theorem OwnB.mono {base base' : Nat} {w : World} {v : Value} {bs : List Bk} (h : OwnB base w v bs) (k : base' ≤ base) : OwnB base' w v bs := ⟨owns_mono h.row k, fun b hb => owns_mono (h.maps b hb) k⟩

/-- No two maps lie in one block. -/
def ApartM (ms : List Bk) : Prop := ms.Pairwise (fun a b => ∀ g, a.m.ownBlock = some g → b.m.ownBlock ≠ some g)

theorem ApartM.snoc {ms : List Bk} (h : ApartM ms) (y : Bk) (hy : ∀ b ∈ ms, ∀ g, b.m.ownBlock = some g → y.m.ownBlock ≠ some g) : ApartM (ms ++ [y]) :=
  List.pairwise_append.2 ⟨h, List.pairwise_singleton _ _, fun a ha b hb => by simp only [List.mem_singleton] at hb; subst hb; exact hy a ha⟩
end Go.Proofs.YtibhepekmihagaaGreatDoor

namespace Go.Proofs.YtibhepekmihagaaGreatDoor
open Go.RowKit

set_option linter.unusedVariables false

set_option maxRecDepth 100000


/-! ### The program's variables -/
def errVars : List Nat := [2, 3, 4, 5, 6, 7, 8, 9, 11]

/-- What the program's variables hold: nine errors of their own, and the library's handle of the type 'error'. -/
structure Vars (w : World) (ad : Nat → Addr) : Prop where
  cell : ∀ i ∈ errVars, w.cell? ⟨i, 0, none⟩ = some (.iface 333 (.pointer (some (ad i))))
  et : w.cell? ⟨10, 0, none⟩ = some (.iface 244 (.agg #[.pointer (some ⟨13, 159, none⟩)]))
  blk : ∀ i ∈ errVars, ∃ c t, w.heap[(ad i).block]? = some (.cells c t (0, 0))

theorem cell_lt {w : World} {a : Addr} {v : Value} (h : w.cell? a = some v) : a.block < w.heap.size := by
  rcases Nat.lt_or_ge a.block w.heap.size with q | q
  · exact q
  · simp [World.cell?, Array.getElem?_eq_none q] at h

theorem Vars.below {w w' : World} {ad : Nat → Addr} (h : Vars w ad) (k : Below w.heap.size w w') : Vars w' ad :=
  ⟨fun i hi => (k.cell (p := ⟨i, 0, none⟩) (cell_lt (h.cell i hi))).trans (h.cell i hi), (k.cell (p := ⟨10, 0, none⟩) (cell_lt h.et)).trans h.et, fun i hi => by
    obtain ⟨c, t, hb⟩ := h.blk i hi
    exact ⟨c, t, (k.block _ (heap_lt hb)).trans hb⟩⟩

/-- The error of a wrong shelf too: another one than those. -/
structure VarsS (w : World) (ad : Nat → Addr) : Prop where
  v : Vars w ad
  ws : w.cell? ⟨1, 0, none⟩ = some (.iface 333 (.pointer (some (ad 1))))
  ne : ∀ i ∈ errVars, ad i ≠ ad 1
  wb : ∃ c t, w.heap[(ad 1).block]? = some (.cells c t (0, 0))

theorem VarsS.below {w w' : World} {ad : Nat → Addr} (h : VarsS w ad) (k : Below w.heap.size w w') : VarsS w' ad :=
  ⟨h.v.below k, (k.cell (p := ⟨1, 0, none⟩) (cell_lt h.ws)).trans h.ws, h.ne, by
    obtain ⟨c, t, hb⟩ := h.wb
    exact ⟨c, t, (k.block _ (heap_lt hb)).trans hb⟩⟩

/-- Which variable is wrapped where that code is told. -/
def varOf (c : Int) : Nat := if c = 1 then 2 else if c = 2 then 3 else if c = 3 then 4 else if c = 4 then 5 else if c = 5 then 6 else if c = 6 then 7 else if c = 7 then 8 else if c = 8 then 9 else if c = 9 then 11 else 0

/-- A refusal, or none. -/
def refErr (ad : Nat → Addr) (c : Int) : Value := if c = 0 then .nilIface else .iface 215 (.agg #[.int .i64 c, .iface 333 (.pointer (some (ad (varOf c))))])
end Go.Proofs.YtibhepekmihagaaGreatDoor

namespace Go.Proofs.YtibhepekmihagaaGreatDoor
open Go.RowKit

set_option linter.unusedVariables false

set_option maxRecDepth 100000


/-- The variable that must() reads. -/
def VarB (w : World) (ad : Addr) : Prop := w.cell? ⟨0, 0, none⟩ = some (.iface 333 (.pointer (some ad)))

theorem must_yes (w : World) : Calls Tryz.prog 86 #[.bool true] w fun e w' => e = .returned (.tuple #[]) ∧ w' = w := by
  go_enter Tryz.func86, Tryz.ntmps86
  go_wp2
  exact bodyPost_end (results_none rfl _ _ _) rfl ⟨rfl, rfl⟩

theorem must_no (ad : Addr) (w : World) (h : VarB w ad) : Calls Tryz.prog 86 #[.bool false] w fun e w' => e = .panicked [{ v := .iface 333 (.pointer (some ad)), recovered := false }] ∧ w' = w := by
  have h' := h
  unfold VarB at h'
  go_enter Tryz.func86, Tryz.ntmps86
  go_wp2
  exact ⟨rfl, rfl, rfl⟩

def hz9 : Array Value := #[.bool false, .int .i64 0, .slice none 0 0, .int .i64 0, .slice none 0 0, .slice none 0 0, .slice none 0 0, .slice none 0 0, .slice none 0 0]

/-- The house's box is written whole, then the other's. -/
def wiped (b c : Nat) (w : World) : World := ((((((((((w.setCell ⟨b, 0, none⟩ (.bool false)).setCell ⟨b, 1, none⟩ (.int .i64 0)).setCell ⟨b, 2, none⟩ (.slice none 0 0)).setCell ⟨b, 3, none⟩ (.int .i64 0)).setCell ⟨b, 4, none⟩ (.slice none 0 0)).setCell ⟨b, 5, none⟩ (.slice none 0 0)).setCell ⟨b, 6, none⟩ (.slice none 0 0)).setCell ⟨b, 7, none⟩ (.slice none 0 0)).setCell ⟨b, 8, none⟩ (.slice none 0 0)).setCell ⟨c, 0, none⟩ (.bool false))

set_option maxHeartbeats 1600000 in
theorem face_panicking (b c : Nat) (x0 x1 x2 x3 x4 x5 x6 x7 x8 y : Value) (u : TypeId) (pv : Value) (older : List PanicEntry) (w : World) (kb : w.heap[b]? = some (.cells #[x0, x1, x2, x3, x4, x5, x6, x7, x8] 33 (0, 0))) (kc : w.heap[c]? = some (.cells #[y] 4 (0, 0))) (hbc : ¬ b = c) :
    CallsD Tryz.prog 84 #[.pointer (some ⟨b, 0, none⟩), .pointer (some ⟨c, 0, none⟩)] (.panicking ({ v := .iface u pv, recovered := false } :: older)) w fun e u' w' =>
      e = .returned (.tuple #[]) ∧ u' = .panicking ({ v := .iface u pv, recovered := true } :: older) ∧ w' = wiped b c w := by
  have hcb : ¬ c = b := fun e => hbc e.symm
  have q0 := at_cell kb 0
  have q1 := at_cell kb 1
  have q2 := at_cell kb 2
  have q3 := at_cell kb 3
  have q4 := at_cell kb 4
  have q5 := at_cell kb 5
  have q6 := at_cell kb 6
  have q7 := at_cell kb 7
  have q8 := at_cell kb 8
  have f0 := at_open kb 0
  have f1 := at_open kb 1
  have f2 := at_open kb 2
  have f3 := at_open kb 3
  have f4 := at_open kb 4
  have f5 := at_open kb 5
  have f6 := at_open kb 6
  have f7 := at_open kb 7
  have f8 := at_open kb 8
  have qc := at_cell kc 0
  have fc := at_open kc 0
  refine callsD_of_wpS Tryz.func84 rfl fun c₀ cs hu => ?_
  apply wpS_seq
  apply wpS_region
  simp [wpOpsS, go_sem, recoverD, hu, Tryz.ntmps84, Exit.thenS]
  refine wpS_cond (t := true) (by simp [Act.eval, Array.replicate]) ?_
  simp only [if_true]
  apply wpS_region
  simp [wpOpsS, go_sem, q0, q1, q2, q3, q4, q5, q6, q7, q8, f0, f1, f2, f3, f4, f5, f6, f7, f8, qc, fc, bodyPostS, results, Tryz.results84, wiped]

theorem face_idle (p q : Addr) (w : World) :
    CallsD Tryz.prog 84 #[.pointer (some p), .pointer (some q)] .returning w fun e u' w' => e = .returned (.tuple #[]) ∧ u' = .returning ∧ w' = w := by
  refine callsD_of_wpS Tryz.func84 rfl fun c₀ cs hu => ?_
  apply wpS_seq
  apply wpS_region
  simp [wpOpsS, go_sem, recoverD, hu, Tryz.ntmps84, Exit.thenS]
  refine wpS_cond (t := false) (by simp [Act.eval, Array.replicate]) ?_
  simp only [Bool.false_eq_true, if_false]
  refine wpS_of_wp (wp_skip ?_)
  cases c₀
  simp_all [bodyPostS, results, Tryz.results84]
end Go.Proofs.YtibhepekmihagaaGreatDoor

