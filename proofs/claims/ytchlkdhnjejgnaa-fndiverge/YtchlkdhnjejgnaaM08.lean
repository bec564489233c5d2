/-
  Contracts and plain laws, one chapter behind the other.
-/
import Derived.Laws.MakeOwn
import Derived.Test.YtchlkdhnjejgnaaM01
import Derived.Test.YtchlkdhnjejgnaaM02
import Derived.Test.YtchlkdhnjejgnaaM04
import Derived.Test.YtchlkdhnjejgnaaM05
import Derived.Test.YtchlkdhnjejgnaaM07
namespace Go.Proofs.Ytchlkdhnjejgnaa
open Go.RowKit

set_option linter.unusedVariables false

set_option maxRecDepth 100000


def Bk.pb (b : Bk) : Pb := ⟨b.nm, b.sz, b.rs, b.fx, b.ep⟩

theorem sorted_adj : ∀ (l : List ByteArray), (∀ (j : Nat) (h1 : j + 1 < l.length), ltB (l[j]'(by omega)) l[j + 1] = true) → sortedB l = true
  | [], _ => rfl
  | [a], _ => rfl
  | a :: b :: t, h => by
    rw [sortedB, Bool.and_eq_true]
    refine ⟨h 0 (by simp), sorted_adj (b :: t) (fun j h1 => ?_)⟩
    have := h (j + 1) (by simp at h1 ⊢; omega)
    simpa using this

theorem sorted_not (l : List ByteArray) (j : Nat) (h1 : j + 1 < l.length) (h : ltB (l[j]'(by omega)) l[j + 1] = false) : sortedB l = false := by
  rw [Bool.eq_false_iff]
  intro q
  have := List.pairwise_iff_getElem.1 ((sorted_iff l).1 q) j (j + 1) (by omega) h1 (by omega)
  rw [h] at this
  cases this

theorem shelf_no_pool (s : Sf) (h : poolOk s.cs s.ps = false) : shelfOk s = false := by simp [shelfOk, h]

theorem shelf_no_many (s : Sf) (h : 6 < s.bs.length) : shelfOk s = false := by
  have : decide (s.bs.length ≤ 6) = false := decide_eq_false (by omega)
  simp [shelfOk, this]

theorem shelf_no_book (s : Sf) (i : Nat) (hi : i < s.bs.length) (h : s.bs[i].ok = false) : shelfOk s = false := by
  have : s.bs.all Pb.ok = false := by
    rw [Bool.eq_false_iff]
    intro q
    have := List.all_eq_true.1 q _ (List.getElem_mem hi)
    rw [h] at this
    cases this
  simp [shelfOk, this]

theorem shelf_no_order (s : Sf) (i : Nat) (hi : i + 1 < s.bs.length) (h : ltB s.bs[i].nm s.bs[i + 1].nm = false) : shelfOk s = false := by
  have := sorted_not (s.bs.map Pb.nm) i (by simpa using hi) (by simpa using h)
  simp [shelfOk, this]

theorem shelf_no_count (s : Sf) (k : Nat) (hk : k < 24) (h : (k < s.cs.length ∧ cntAll s.bs (k : Int) ≠ s.cs.getD k 0) ∨ (s.cs.length ≤ k ∧ 0 < cntAll s.bs (k : Int))) : shelfOk s = false := by
  have : countsOk s.cs s.bs = false := by
    rw [Bool.eq_false_iff]
    intro q
    have := List.all_eq_true.1 q k (List.mem_range.2 hk)
    rcases h with ⟨h1, h2⟩ | ⟨h1, h2⟩
    · rw [if_pos h1, decide_eq_true_eq] at this
      exact h2 this
    · rw [if_neg (by omega), decide_eq_true_eq] at this
      omega
  simp [shelfOk, this]

theorem shelf_yes (s : Sf) (h1 : poolOk s.cs s.ps = true) (h2 : s.bs.length ≤ 6) (h3 : ∀ (i : Nat) (hi : i < s.bs.length), s.bs[i].ok = true) (h4 : ∀ (i : Nat) (hi : i + 1 < s.bs.length), ltB (s.bs[i]'(by omega)).nm s.bs[i + 1].nm = true)
    (h5 : ∀ k, k < 24 → ¬ ((k < s.cs.length ∧ cntAll s.bs (k : Int) ≠ s.cs.getD k 0) ∨ (s.cs.length ≤ k ∧ 0 < cntAll s.bs (k : Int)))) : shelfOk s = true := by
  unfold shelfOk
  rw [Bool.and_eq_true, Bool.and_eq_true, Bool.and_eq_true, Bool.and_eq_true]
  refine ⟨⟨⟨⟨h1, decide_eq_true h2⟩, List.all_eq_true.2 (fun b hb => ?_)⟩, sorted_adj _ (fun j hj => by simpa using h4 j (by simpa using hj))⟩, List.all_eq_true.2 (fun k hk => ?_)⟩
  · obtain ⟨i, hi, rfl⟩ := List.getElem_of_mem hb
    exact h3 i hi
  · have hk := List.mem_range.1 hk
    have := h5 k hk
    split
    · rename_i hl
      refine decide_eq_true ?_
      by_cases e : cntAll s.bs (k : Int) = s.cs.getD k 0
      · exact e
      · exact absurd (.inl ⟨hl, e⟩) this
    · rename_i hl
      refine decide_eq_true ?_
      have h0 := cntAll_nonneg s.bs (k : Int)
      by_cases e : 0 < cntAll s.bs (k : Int)
      · exact absurd (.inr ⟨by omega, e⟩) this
      · omega

/-- A row of 24 counts. -/
def row24 (f : Nat → Int) : List Int := (List.range 24).map f

theorem row24_length (f : Nat → Int) : (row24 f).length = 24 := by simp [row24]

theorem row24_get (f : Nat → Int) (k : Nat) (h : k < 24) : (row24 f).getD k 0 = f k := by
  rw [getD_of _ k (by rw [row24_length]; exact h)]
  simp [row24]

theorem row24_set (f : Nat → Int) (m : Nat) (hm : m < 24) (v : Int) : (row24 f).set m v = row24 (fun k => if m = k then v else f k) := by
  apply List.ext_getElem (by simp [row24])
  intro k h1 h2
  rw [List.getElem_set]
  by_cases e : m = k
  · subst e; simp [row24]
  · simp [row24, e]

theorem row24_zero : List.replicate 24 (0 : Int) = row24 (fun _ => 0) := by decide

theorem row24_congr (f g : Nat → Int) (h : ∀ k, k < 24 → f k = g k) : row24 f = row24 g := by
  unfold row24
  exact List.map_congr_left (fun k hk => h k (List.mem_range.1 hk))

theorem count_take (l : List Int) (j : Nat) (hj : j < l.length) (k : Int) : ((l.take (j + 1)).count k : Int) = ((l.take j).count k : Int) + (if l[j] = k then 1 else 0) := by
  rw [List.take_succ_eq_append_getElem hj, List.count_append, List.count_singleton]
  by_cases e : l[j] = k
  · rw [if_pos (by rw [beq_iff_eq]; exact e), if_pos e]; omega
  · rw [if_neg (by rw [beq_iff_eq]; exact e), if_neg e]; omega

theorem cntAll_take (bs : List Pb) (i : Nat) (hi : i < bs.length) (p : Int) : cntAll (bs.take (i + 1)) p = cntAll (bs.take i) p + bs[i].cnt p := by
  rw [List.take_succ_eq_append_getElem hi, cntAll_append, cntAll_cons]
  have : cntAll ([] : List Pb) p = 0 := rfl
  omega

theorem pagesOf_cnt (b : Pb) (h : b.ok = true) (k : Nat) : ((pagesOf b.rs).count (k : Int) : Int) = b.cnt (k : Int) := by
  rw [filter_count _ (book_parts h).2.2.2.1]
  rfl

theorem pagesOf_in (rs : List (Int × Int × Int)) (h : mapOk rs = true) (p : Int) (hp : p ∈ pagesOf rs) : 0 ≤ p ∧ p ≤ 23 := by
  unfold pagesOf at hp
  rw [if_pos h, List.mem_filter, decide_eq_true_eq] at hp
  obtain ⟨j, hj, e⟩ := (mem_getD _ (pages_length _) p).1 hp.1
  have := (pages_range rs h j hj).2
  omega
end Go.Proofs.Ytchlkdhnjejgnaa

namespace Go.Proofs.Ytchlkdhnjejgnaa
open Go.RowKit

set_option linter.unusedVariables false

set_option maxRecDepth 100000


def droppedAllL (s : List Int × List Int) (l : List Int) : List Int × List Int := l.foldl (fun s p => (dropped s.1 s.2 p).1) s

theorem poolOk_of {n : Nat} {cs ps : List Int} (h : Cells n cs ps) (hn : 1 ≤ n ∧ n ≤ 24) (hb : ∀ k, k < n → 0 ≤ cs.getD k 0 ∧ cs.getD k 0 ≤ 400) : poolOk cs ps = true := by
  have hc := h.c
  have hp := h.p
  refine (poolOk_iff cs ps).2 ⟨by omega, by omega, by omega, fun j hj => (cellOk_iff _ _).2 ?_⟩
  have h1 := hb j (by omega)
  have h2 := h.val j (by omega)
  exact ⟨h1.1, h1.2, h2.1, h2.2.1, h2.2.2⟩

theorem dropped_one {n : Nat} {cs ps : List Int} (h : Cells n cs ps) (hn : 1 ≤ n ∧ n ≤ 24) (hb : ∀ k, k < n → 0 ≤ cs.getD k 0 ∧ cs.getD k 0 ≤ 400) (k : Nat) (hk : k < n) (h1 : 1 ≤ cs.getD k 0) : dropped cs ps (k : Int) = (dropOne (cs, ps) (k : Int), true) := by
  have hc := h.c
  have e : dropOne (cs, ps) (k : Int) = (cs.set k (cs.getD k 0 - 1), if cs.getD k 0 = 1 then ps.set k 0 else ps) := by
    rw [dropOne, if_pos (by omega : (0 : Int) ≤ (k : Int)), Int.toNat_natCast]
  rw [e, dropped, if_pos (poolOk_of h hn hb), countAt_of cs k (by omega), if_pos h1, Int.toNat_natCast]

theorem droppedAll_link {n : Nat} (hn : 1 ≤ n ∧ n ≤ 24) (l : List Int) : ∀ {cs ps : List Int}, Cells n cs ps → (∀ k, k < n → 0 ≤ cs.getD k 0 ∧ cs.getD k 0 ≤ 400) → (∀ p ∈ l, 0 ≤ p ∧ p < n) → (∀ k, k < n → (l.count (k : Int) : Int) ≤ cs.getD k 0) → droppedAllL (cs, ps) l = dropAll (cs, ps) l := by
  induction l with
  | nil => intro cs ps _ _ _ _; rfl
  | cons p t ih =>
    intro cs ps h hb hp hc
    obtain ⟨h0, hm⟩ := hp p (List.mem_cons_self ..)
    obtain ⟨m, rfl⟩ := Int.eq_ofNat_of_zero_le h0
    have hm' : m < n := by omega
    have h1 : 1 ≤ cs.getD m 0 := by
      have := hc m hm'
      rw [List.count_cons_self] at this
      omega
    obtain ⟨c1, g1⟩ := dropOne_ok h m hm' h1
    show droppedAllL (dropped cs ps (m : Int)).1 t = dropAll (dropOne (cs, ps) (m : Int)) t
    rw [dropped_one h hn hb m hm' h1]
    show droppedAllL ((dropOne (cs, ps) (m : Int)).1, (dropOne (cs, ps) (m : Int)).2) t = dropAll ((dropOne (cs, ps) (m : Int)).1, (dropOne (cs, ps) (m : Int)).2) t
    refine ih c1 (fun k hk => ?_) (fun q hq => hp q (List.mem_cons_of_mem _ hq)) (fun k hk => ?_)
    · have := hb k hk
      rw [g1]
      split
      · rename_i e; subst e; omega
      · exact this
    · have := hc k hk
      rw [List.count_cons] at this
      rw [g1]
      by_cases ek : m = k
      · subst ek; rw [if_pos rfl]; rw [beq_self_eq_true, if_pos rfl] at this; omega
      · rw [if_neg ek]
        have hne : ((m : Int) == (k : Int)) = false := by rw [beq_eq_false_iff_ne]; omega
        rw [hne, if_neg (by decide)] at this
        omega

theorem dropAll_filter (l : List Int) : ∀ s : List Int × List Int, dropAll s (l.filter (fun p => decide (0 ≤ p))) = dropAll s l := by
  induction l with
  | nil => intro s; rfl
  | cons p t ih =>
    intro s
    by_cases h0 : 0 ≤ p
    · rw [List.filter_cons_of_pos (by simpa using h0)]
      exact ih (dropOne s p)
    · rw [List.filter_cons_of_neg (by simpa using h0)]
      have e : dropAll s (p :: t) = dropAll (dropOne s p) t := rfl
      rw [e, ih, dropOne, if_neg h0]

/-! ### A right shelf's pool -/
theorem ShInv.bound {s : Sf} (h : ShInv s) : ∀ k, k < s.cs.length → 0 ≤ s.cs.getD k 0 ∧ s.cs.getD k 0 ≤ 96 := fun k hk => by
  rw [h.cnt k hk]
  have h5 := cntAll_le s.bs (k : Int)
  have h6 := cntAll_nonneg s.bs (k : Int)
  have h7 := h.few
  omega

theorem ShInv.bound4 {s : Sf} (h : ShInv s) : ∀ k, k < s.cs.length → 0 ≤ s.cs.getD k 0 ∧ s.cs.getD k 0 ≤ 400 := fun k hk => by
  have := h.bound k hk
  omega

theorem ShInv.poolOk {s : Sf} (h : ShInv s) : poolOk s.cs s.ps = true := poolOk_of h.cells h.n1 h.bound4

theorem ShInv.mapOk {s : Sf} (h : ShInv s) (i : Nat) (hi : i < s.bs.length) : mapOk s.bs[i].rs = true := (book_parts (h.oks _ (List.getElem_mem hi))).2.2.2.1

/-- The pages of a book in the order of its places, from a place on. -/
theorem ShInv.part {s : Sf} (h : ShInv s) (i : Nat) (hi : i < s.bs.length) (n : Nat) : droppedAllL (s.cs, s.ps) (((pages s.bs[i].rs).drop n).filter (fun p => decide (0 ≤ p))) = dropAll (s.cs, s.ps) ((pages s.bs[i].rs).drop n) := by
  have hcn := h.cells.c
  rw [droppedAll_link h.n1 _ h.cells h.bound4 (fun p hp => ?_) (fun k hk => ?_), dropAll_filter]
  · obtain ⟨h1, h2⟩ := List.mem_filter.1 hp
    have h3 : 0 ≤ p := by simpa using h2
    exact ⟨h3, (h.page i hi p (List.mem_of_mem_drop h1) h3).1⟩
  · have h1 := cnt_le_cs h i hi k hk
    unfold Pb.cnt at h1
    have h2 := (List.drop_sublist n (pages s.bs[i].rs)).count_le (k : Int)
    have h3 := ((List.filter_sublist (l := (pages s.bs[i].rs).drop n) (p := fun p => decide (0 ≤ p))).count_le (k : Int))
    omega

/-! ### Kind by kind -/
structure OpIn (s : Sf) (o : Oq) (i : Nat) : Prop where
  inv : ShInv s
  ok : opOk o = true
  ref : refused s.bs o = 0
  lt : i < s.bs.length
  at_ : findP s.bs o.nm = i

theorem OpIn.book {s : Sf} {o : Oq} {i : Nat} (h : OpIn s o i) : bookAt s.bs (findP s.bs o.nm) = s.bs[i]'h.lt := by rw [h.at_, bookAt_of s.bs i h.lt]

theorem OpIn.place {s : Sf} {o : Oq} {i : Nat} (h : OpIn s o i) (h1 : o.k ≠ 1) (ha : kAt o.k = true) : (0 ≤ o.at_ ∧ o.at_ < 16) ∧ o.at_ < (s.bs[i]'h.lt).sz := by
  have h2 := (refused_parts h.ref).2.2.2.1 h1 ha
  rw [h.book] at h2
  have h3 := (book_parts (h.inv.oks _ (List.getElem_mem h.lt))).2.1
  have h4 := (op_parts h.ok).2.2.2.1
  omega
end Go.Proofs.Ytchlkdhnjejgnaa

namespace Go.Proofs.Ytchlkdhnjejgnaa
open Go.RowKit

set_option linter.unusedVariables false

set_option maxRecDepth 100000


theorem mem_insert (bs : List Pb) (b : Pb) : b ∈ insertP bs b := by simp [insertP]

theorem mem_insert_old (bs : List Pb) (b x : Pb) (h : x ∈ bs) : x ∈ insertP bs b := by
  rw [← List.take_append_drop (insertAt bs b.nm) bs, List.mem_append] at h
  simp only [insertP, List.mem_append, List.mem_singleton]
  rcases h with h | h
  · exact .inl (.inl h)
  · exact .inr h

/-- A snapshot or a clone. -/
theorem copy_law {s : Sf} (h : ShInv s) (o : Oq) (ho : opOk o = true) (hr : refused s.bs o = 0) (hk : kOther o.k = true) :
    zeros (doOp s o).1.cs = zeros s.cs ∧ ∃ a b : Pb, bookAt (doOp s o).1.bs (findP (doOp s o).1.bs o.nm) = a ∧ bookAt (doOp s o).1.bs (findP (doOp s o).1.bs o.ot) = b ∧ 0 ≤ findP (doOp s o).1.bs o.nm ∧ 0 ≤ findP (doOp s o).1.bs o.ot ∧ a.ok = true ∧ b.ok = true ∧ a.sz = b.sz ∧ a.rs = b.rs ∧ b.ep = 0 ∧ b.fx = decide (o.k = 4) := by
  have hinv := do_inv h o
  obtain ⟨r1, r2, r3, -, -⟩ := refused_parts hr
  have hk1 : o.k ≠ 1 := fun e => by rw [e] at hk; exact absurd hk (by decide)
  have hk6 : o.k ≠ 6 := fun e => by rw [e] at hk; exact absurd hk (by decide)
  obtain ⟨i, hi, hfe, hnm⟩ := find_in s.bs o.nm (by have := r1 hk1; omega)
  have hd : (doOp s o).1 = ⟨shareAll s.cs (pagesOf s.bs[i].rs), s.ps, insertP s.bs ⟨o.ot, s.bs[i].sz, s.bs[i].rs, decide (o.k = 4), 0⟩⟩ := by
    unfold doOp
    rw [if_neg (by rw [ho]; decide), if_neg (by omega), if_neg hk1, if_neg hk6, if_pos hk, hfe, bookAt_of s.bs i hi]
  rw [hd] at hinv ⊢
  obtain ⟨b1, b2, b3, b4, b5⟩ := book_parts (h.oks _ (List.getElem_mem hi))
  have hpm : ∀ p ∈ pagesOf s.bs[i].rs, 0 ≤ p ∧ p ∈ pages s.bs[i].rs := fun p hp => by
    unfold pagesOf at hp
    rw [if_pos b4, List.mem_filter, decide_eq_true_eq] at hp
    exact ⟨hp.2, hp.1⟩
  obtain ⟨c1, c2⟩ := shareAll_ok (pagesOf s.bs[i].rs) h.cells (fun p hp => ⟨(hpm p hp).1, (h.page i hi p (hpm p hp).2 (hpm p hp).1).1⟩) (fun p hp => (h.page i hi p (hpm p hp).2 (hpm p hp).1).2)
  refine ⟨zeros_eq_of _ _ c1.c (fun k hk => ?_), ?_⟩
  · simp only
    rw [c2 k hk]
    constructor
    · intro h0
      by_cases hz : (pagesOf s.bs[i].rs).count (k : Int) = 0
      · omega
      · have hm : (k : Int) ∈ pagesOf s.bs[i].rs := List.count_pos_iff.1 (by omega)
        have := (h.page i hi _ (hpm _ hm).2 (hpm _ hm).1).2
        rw [Int.toNat_natCast] at this
        omega
    · intro h0
      have := h.cnt k hk
      have := cntAll_nonneg s.bs (k : Int)
      omega
  · have ma : s.bs[i] ∈ insertP s.bs ⟨o.ot, s.bs[i].sz, s.bs[i].rs, decide (o.k = 4), 0⟩ := mem_insert_old _ _ _ (List.getElem_mem hi)
    have mb := mem_insert s.bs ⟨o.ot, s.bs[i].sz, s.bs[i].rs, decide (o.k = 4), 0⟩
    have f1 := find_mem hinv.srt s.bs[i] ma
    have f2 := find_mem hinv.srt _ mb
    rw [hnm] at f1
    exact ⟨s.bs[i], ⟨o.ot, s.bs[i].sz, s.bs[i].rs, decide (o.k = 4), 0⟩, f1.2, f2.2, f1.1, f2.1, h.oks _ (List.getElem_mem hi), hinv.oks _ mb, rfl, rfl, rfl, rfl⟩
end Go.Proofs.Ytchlkdhnjejgnaa

namespace Go.Proofs.Ytchlkdhnjejgnaa
open Go.RowKit

set_option linter.unusedVariables false

set_option maxRecDepth 100000

/-- make([]int64, n): a row of noughts, at the end of memory. -/
theorem made_ints (n : Nat) (hn : n ≤ 1048576) : ∃ M : Array Value, M.toList = (List.replicate n (0 : Int)).map (Value.int .i64) ∧ (∀ W : World, (Instr.makeSlice 24 (.int .i64 (n : Int)) (.int .i64 (n : Int))).run Try.prog W = .ok (.slice (some ⟨W.heap.size, 0, none⟩) n n) (W.alloc (.cells M 2))) ∧
    ∀ (W : World) (base : Nat), base ≤ W.heap.size → (W.alloc (.cells M 2)).ownsRow base 2 1 (.slice (some ⟨W.heap.size, 0, none⟩) n n) n ((List.replicate n (0 : Int)).map (Value.int .i64)) := by
  obtain ⟨i0, hi, hz0, hz1, hz2⟩ := info_parts Try.infoI64
  have e : (madeCells (Value.int .i64 0).cells n).toList = (List.replicate n (0 : Int)).map (Value.int .i64) := by
    show (madeCells #[.int .i64 0] n).toList = _
    rw [toList_madeCells_one]
    simp
  refine ⟨madeCells (Value.int .i64 0).cells n, e, fun W => ?_, fun W base hb => ?_⟩
  · have h := run_make (P := Try.prog) W 24 2 i0 (.int .i64 0) Try.underlying24 hi hz0 .i64 .i64 (n : Int) (n : Int) (by omega) (by omega) (by rw [hz2]; omega) (by omega)
    rw [hz1, Nat.mul_one, Int.toNat_natCast] at h
    simpa using h
  · have h := World.ownsRow_lit (base := base) (size := 1) (e := 2) W (madeCells (Value.int .i64 0).cells n) n hb (by unfold maxLen; omega) (by rw [size_madeCells]; omega)
    rwa [e] at h

theorem int_ne {x y : Int} (h : (x != y) = true) : x ≠ y := by simpa using h

theorem int_same {x y : Int} (h : (x != y) = false) : x = y := by simpa using h

set_option maxHeartbeats 800000 in
theorem likeInts_any (v1 v2 : Value) (xs ys : List Int) (w : World) (h1 : Reads w.heap.size w v1 (xs.map (Value.int .i64))) (h2 : Reads w.heap.size w v2 (ys.map (Value.int .i64))) :
    Calls Try.prog 15 #[v1, v2] w fun e w' => e = .returned (.bool (decide (xs = ys))) ∧ Below w.heap.size w w' := by
  obtain ⟨o1, cap1, rfl, m1, c1, -⟩ := h1
  obtain ⟨o2, cap2, rfl, m2, c2, -⟩ := h2
  simp only [List.length_map] at m1 m2 c1 c2 ⊢
  by_cases hlen : xs.length = ys.length
  · rw [← hlen]
    have C1 : Hid (∀ j u, (xs.map (Value.int .i64))[j]? = some u → ∃ g off, o1 = some ⟨g, off, none⟩ ∧ g < w.heap.size ∧ w.cell? ⟨g, off + j, none⟩ = some u) := c1
    have C2 : Hid (∀ j u, (ys.map (Value.int .i64))[j]? = some u → ∃ g off, o2 = some ⟨g, off, none⟩ ∧ g < w.heap.size ∧ w.cell? ⟨g, off + j, none⟩ = some u) := c2
    have HL : Hid (xs.length = ys.length) := hlen
    have hle : ys.length ≤ xs.length := by omega
    have hge : xs.length ≤ ys.length := by omega
    unfold maxLen at m1
    clear c1 c2 m2 hlen
    go_enter Try.func15, Try.ntmps15
    go_wp2
    go_loopw [5] (fun i wr => ∃ k : Nat, k ≤ xs.length ∧ i = .int .i64 k ∧ xs.take k = ys.take k ∧ Below w.heap.size w wr) (fun i _ => xs.length - (intOf i).toNat)
    case atStart => exact ⟨0, Nat.zero_le _, rfl, rfl, Below.refl _ _⟩
    case round =>
      obtain ⟨k, hk, rfl, htk, hb⟩ := hrel
      have HT : Hid (xs.take k = ys.take k) := htk
      clear htk
      by_cases hlt : k < xs.length
      · have hlt2 : k < ys.length := by omega
        obtain ⟨g1, of1, rfl, q1, cc1⟩ := C1.out k (.int .i64 xs[k]) (by simp [hlt])
        obtain ⟨g2, of2, rfl, q2, cc2⟩ := C2.out k (.int .i64 ys[k]) (by simp [hlt2])
        generalize hx : xs[k] = x at cc1
        generalize hy : ys[k] = y at cc2
        have HX : Hid (xs[k] = x) := hx
        have HY : Hid (ys[k] = y) := hy
        clear hx hy C1 C2
        have d1 := (hb.cell (p := ⟨g1, of1 + k, none⟩) q1).trans cc1
        have d2 := (hb.cell (p := ⟨g2, of2 + k, none⟩) q2).trans cc2
        clear cc1 cc2
        go_wp2
        go_quiet (fail)
        go_wp2
        · have hne : x ≠ y := int_ne (by assumption)
          rw [← HX.out, ← HY.out] at hne
          go_ret
          exact ⟨ret_bool (by simp [ne_at xs ys k hlt hlt2 hne]), ⟨hb.os, hb.tape, hb.output, hb.size, hb.block⟩⟩
        · have he : x = y := int_same (by assumption)
          rw [← HX.out, ← HY.out] at he
          go_roundw
          case rel => exact ⟨k + 1, by omega, by go_num, take_more xs ys k hlt hlt2 HT.out he, ⟨hb.os, hb.tape, hb.output, hb.size, hb.block⟩⟩
          case measure => simp [intOf]; omega
      · go_wp2
        go_ret
        exact ⟨ret_bool (by simp [all_taken xs ys k hlt HL.out HT.out]), hb⟩
  · have hn : ((xs.length : Int) != (ys.length : Int)) = true := by rw [bne_iff_ne]; omega
    have HX : Hid (decide (xs = ys) = false) := by rw [Hid, decide_eq_false_iff_not]; intro e; rw [e] at hlen; exact hlen rfl
    unfold maxLen at m1 m2
    clear hlen c1 c2
    go_enter Try.func15, Try.ntmps15
    go_wp2
    go_ret
    exact ⟨ret_bool HX.out.symm, Below.refl _ _⟩
end Go.Proofs.Ytchlkdhnjejgnaa

namespace Go.Proofs.Ytchlkdhnjejgnaa
open Go.RowKit

set_option linter.unusedVariables false

set_option maxRecDepth 100000


def intC (x : Int) : List Value := [.int .i64 x]

theorem intC_len (x : Int) : (intC x).length = 1 := rfl

theorem flat_intC (xs : List Int) : xs.flatMap intC = xs.map (Value.int .i64) := by
  induction xs with
  | nil => rfl
  | cons x t ih => rw [List.flatMap_cons, ih]; rfl

theorem readsK_to {B : Nat} {w : World} {v : Value} {xs : List Int} (h : ReadsR 1 intC B w v xs) : Reads B w v (xs.map (Value.int .i64)) := by
  obtain ⟨o, cap, hv, hm, hc, hr⟩ := h
  refine ⟨o, cap, by rw [List.length_map]; exact hv, by rw [List.length_map]; exact hm, fun i u hi => ?_, by rw [List.length_map]; exact hr⟩
  rw [List.getElem?_map] at hi
  cases hx : xs[i]? with
  | none => rw [hx] at hi; cases hi
  | some x =>
    rw [hx] at hi
    simp only [Option.map_some, Option.some.injEq] at hi
    subst hi
    obtain ⟨g, off, e, hg, hc'⟩ := hc i x hx
    exact ⟨g, off, e, hg, by simpa using hc' 0 _ rfl⟩

/-- A plain: its cells, and the values that it reads. -/
structure Pk where
  nm : ByteArray
  sz : Int
  m : Value
  rs : List Int
  fx : Bool
  ep : Int

def pkC (b : Pk) : List Value := [.string b.nm, .int .i64 b.sz, b.m, .bool b.fx, .int .i64 b.ep]

theorem pkC_len (b : Pk) : (pkC b).length = 5 := rfl

/-- A row of plains that is read, the values too. -/
structure ReadsK (B : Nat) (w : World) (v : Value) (bs : List Pk) : Prop where
  row : ReadsR 5 pkC B w v bs
  maps : ∀ b ∈ bs, ReadsR 1 intC B w b.m b.rs

theorem ReadsK.below {B : Nat} {w w' : World} {v : Value} {bs : List Pk} (h : ReadsK B w v bs) (k : Below B w w') : ReadsK B w' v bs := ⟨h.row.below k, fun b hb => (h.maps b hb).below k⟩

theorem ReadsK.mono {B B' : Nat} {w : World} {v : Value} {bs : List Pk} (h : ReadsK B w v bs) (k : B ≤ B') : ReadsK B' w v bs := ⟨h.row.mono k, fun b hb => (h.maps b hb).mono k⟩
end Go.Proofs.Ytchlkdhnjejgnaa

namespace Go.Proofs.Ytchlkdhnjejgnaa
open Go.RowKit

set_option linter.unusedVariables false

set_option maxRecDepth 100000


/-- A plain, all of it but where its values lie. -/
structure Pv where
  nm : ByteArray
  sz : Int
  vs : List Int
  fx : Bool
  ep : Int

def Pk.pv (b : Pk) : Pv := ⟨b.nm, b.sz, b.rs, b.fx, b.ep⟩

def valuesB (vs : List Int) : Bool := vs.all (fun v => decide (0 ≤ v) && decide (v ≤ 999))

def plainOk (nm : ByteArray) (sz : Int) (vs : List Int) (ep : Int) : Bool :=
  valuesB vs && Nums.nameB nm.data.toList && (decide (1 ≤ sz) && decide (sz ≤ 16)) && (decide (0 ≤ ep) && decide (ep ≤ 1000)) && decide ((vs.length : Int) = sz)

def Pv.ok (p : Pv) : Bool := plainOk p.nm p.sz p.vs p.ep

/-- The same as books without pages. -/
def Pv.pb (p : Pv) : Pb := ⟨p.nm, p.sz, [], p.fx, p.ep⟩
end Go.Proofs.Ytchlkdhnjejgnaa

namespace Go.Proofs.Ytchlkdhnjejgnaa
set_option linter.unusedVariables false

set_option maxRecDepth 100000


def valAt (ps : List Int) (rs : List (Int × Int × Int)) (k : Nat) : Int := if (pages rs).getD k 0 < 0 then 0 else ps.getD ((pages rs).getD k 0).toNat 0

def shownV (ps : List Int) (rs : List (Int × Int × Int)) (n : Nat) : List Int := (List.range n).map (valAt ps rs)

theorem shownV_succ (ps : List Int) (rs : List (Int × Int × Int)) (n : Nat) : shownV ps rs (n + 1) = shownV ps rs n ++ [valAt ps rs n] := by simp [shownV, List.range_succ]

theorem shownV_len (ps : List Int) (rs : List (Int × Int × Int)) (n : Nat) : (shownV ps rs n).length = n := by simp [shownV]

def shownP (ps : List Int) (b : Pb) : Pv := ⟨b.nm, b.sz, shownV ps b.rs b.sz.toNat, b.fx, b.ep⟩

def shownPlain (s : Sf) : List Pv := if shelfOk s = true then s.bs.map (shownP s.ps) else []

theorem shown_parts {s : Sf} (h : ShInv s) (i : Nat) (hi : i < s.bs.length) : mapOk s.bs[i].rs = true ∧ (1 ≤ s.bs[i].sz ∧ s.bs[i].sz ≤ 16) ∧ ∀ k, k < 16 → -1 ≤ (pages s.bs[i].rs).getD k 0 ∧ (pages s.bs[i].rs).getD k 0 < s.ps.length := by
  obtain ⟨-, hs, -, hm, -⟩ := book_parts (h.oks _ (List.getElem_mem hi))
  refine ⟨hm, hs, fun k hk => ⟨(pages_range _ hm k hk).1, ?_⟩⟩
  by_cases h0 : 0 ≤ (pages s.bs[i].rs).getD k 0
  · have hl : k < (pages s.bs[i].rs).length := by rw [pages_length]; exact hk
    have e : (pages s.bs[i].rs).getD k 0 = (pages s.bs[i].rs)[k] := by simp [hl]
    have := (h.page i hi _ (by rw [e]; exact List.getElem_mem hl) h0).1
    have h2 := h.cells.p
    omega
  · have := h.cells.p
    have := h.n1
    omega
end Go.Proofs.Ytchlkdhnjejgnaa

namespace Go.Proofs.Ytchlkdhnjejgnaa
set_option linter.unusedVariables false

set_option maxRecDepth 100000


theorem getD_put (l : List Int) (i j : Nat) (v : Int) : (l.set i v).getD j 0 = if i = j ∧ i < l.length then v else l.getD j 0 := by
  rw [List.getD_eq_getElem?_getD, List.getD_eq_getElem?_getD, List.getElem?_set]
  by_cases h : i = j
  · subst h
    by_cases h2 : i < l.length
    · rw [if_pos rfl, if_pos h2, if_pos ⟨rfl, h2⟩]; rfl
    · rw [if_pos rfl, if_neg h2, if_neg (fun q => h2 q.2), List.getElem?_eq_none (by omega)]
  · rw [if_neg h, if_neg (fun q => h q.1)]

/-- A page that is still counted behind the drops has its value. -/
theorem dropAll_keep (l : List Int) : ∀ (cs ps : List Int) (q : Nat), q < cs.length → 1 ≤ cs.getD q 0 - (l.count (q : Int) : Int) → (dropAll (cs, ps) l).2.getD q 0 = ps.getD q 0 := by
  induction l with
  | nil => intro cs ps q _ _; rfl
  | cons p t ih =>
    intro cs ps q hq h
    have e : dropAll (cs, ps) (p :: t) = dropAll (dropOne (cs, ps) p) t := rfl
    rw [e]
    unfold dropOne
    by_cases hp : 0 ≤ p
    · rw [if_pos hp]
      simp only
      by_cases hpq : p = (q : Int)
      · subst hpq
        rw [List.count_cons_self] at h
        simp only [Int.toNat_natCast]
        have h1 : ¬ cs.getD q 0 = 1 := by omega
        rw [if_neg h1, ih _ _ q (by rw [List.length_set]; exact hq) (by rw [getD_put, if_pos ⟨rfl, hq⟩]; omega)]
      · rw [List.count_cons_of_ne (fun z => hpq z)] at h
        have hn : ¬ (p.toNat = q ∧ p.toNat < cs.length) := fun z => hpq (by omega)
        rw [ih _ _ q (by rw [List.length_set]; exact hq) (by rw [getD_put, if_neg hn]; exact h)]
        split
        · rw [getD_put, if_neg (fun z => hpq (by omega))]
        · rfl
    · rw [if_neg hp]
      have hpq : ¬ p = (q : Int) := by omega
      rw [List.count_cons_of_ne (fun z => hpq z)] at h
      exact ih _ _ q hq h

/-- Two books have their places each. -/
theorem cnt_two {s : Sf} (h : ShInv s) (i j : Nat) (hi : i < s.bs.length) (hj : j < s.bs.length) (hij : i ≠ j) (q : Nat) (hq : q < s.cs.length) : (s.bs[i]'hi).cnt (q : Int) + (s.bs[j]'hj).cnt (q : Int) ≤ s.cs.getD q 0 := by
  have h1 := cntAll_set s.bs i hi ⟨(s.bs[i]'hi).nm, 1, [], false, 0⟩ (q : Int)
  rw [cnt_empty] at h1
  have h2 := cntAll_at (s.bs.set i ⟨(s.bs[i]'hi).nm, 1, [], false, 0⟩) j (by rw [List.length_set]; exact hj) (q : Int)
  rw [List.getElem_set_ne hij] at h2
  rw [h.cnt q hq]
  omega

theorem mem_cnt {b : Pb} {q : Nat} (h : (q : Int) ∈ pages b.rs) : 1 ≤ b.cnt (q : Int) := by
  unfold Pb.cnt
  have := List.count_pos_iff.2 h
  omega

theorem drop_sees {s : Sf} (h : ShInv s) (i j : Nat) (hi : i < s.bs.length) (hj : j < s.bs.length) (hij : i ≠ j) (l : List Int) (hl : ∀ q : Nat, (l.count (q : Int) : Int) ≤ (s.bs[i]'hi).cnt (q : Int)) (q : Nat) (hq : q < s.cs.length) (hm : (q : Int) ∈ pages (s.bs[j]'hj).rs) : (dropAll (s.cs, s.ps) l).2.getD q 0 = s.ps.getD q 0 := by
  have h2 := cnt_two h i j hi hj hij q hq
  have h3 := mem_cnt hm
  have h4 := hl q
  exact dropAll_keep l s.cs s.ps q hq (by omega)

theorem drop_count_le (l : List Int) (n : Nat) (q : Int) : (l.drop n).count q ≤ l.count q := List.Sublist.count_le q (List.drop_sublist n l)

theorem free_zero (cs : List Int) (h : firstFree cs < cs.length) : cs.getD (firstFree cs) 0 = 0 := by
  unfold firstFree at h ⊢
  have h2 := List.findIdx_getElem (w := h)
  rw [List.getD_eq_getElem?_getD, List.getElem?_eq_getElem h]
  simpa using h2

theorem write_sees {s : Sf} (h : ShInv s) (o : Oq) (i j : Nat) (hi : i < s.bs.length) (hj : j < s.bs.length) (hij : i ≠ j) (page : Int) (hpg : 0 ≤ page → page ∈ pages (s.bs[i]'hi).rs) (q : Nat) (hq : q < s.cs.length) (hm : (q : Int) ∈ pages (s.bs[j]'hj).rs) : (doWrite s i (s.bs[i]'hi) o page).1.ps.getD q 0 = s.ps.getD q 0 := by
  have h2 := cnt_two h i j hi hj hij q hq
  have h3 := mem_cnt hm
  have h0 := cnt_nonneg (s.bs[i]'hi) (q : Int)
  have hps := h.cells.p
  unfold doWrite
  split
  · rename_i hc
    simp only
    rw [getD_put, if_neg]
    intro z
    have e : page = (q : Int) := by omega
    have h5 := mem_cnt (b := s.bs[i]'hi) (q := q) (by rw [← e]; exact hpg hc.1)
    rw [z.1] at hc
    omega
  · split
    · rename_i hc hf
      simp only
      have hne : ¬ firstFree s.cs = q := fun z => by
        have := free_zero s.cs hf
        rw [z] at this
        omega
      have e1 : tookC s.cs = s.cs.set (firstFree s.cs) 1 := by unfold tookC; rw [if_pos hf]
      have e2 : tookP s.cs s.ps o.va = s.ps.set (firstFree s.cs) o.va := by unfold tookP; rw [if_pos hf]
      have hk := dropAll_keep [page] (tookC s.cs) (tookP s.cs s.ps o.va) q (by rw [e1, List.length_set]; exact hq) (by
        rw [e1, getD_put, if_neg (fun z => hne z.1)]
        by_cases z : page = (q : Int)
        · have h5 := mem_cnt (b := s.bs[i]'hi) (q := q) (by rw [← z]; exact hpg (by omega))
          rw [z, List.count_cons_self, List.count_nil]
          omega
        · rw [List.count_cons_of_ne (fun y => z y), List.count_nil]
          omega)
      have e3 : dropAll (tookC s.cs, tookP s.cs s.ps o.va) [page] = dropOne (tookC s.cs, tookP s.cs s.ps o.va) page := rfl
      rw [e3] at hk
      rw [hk, e2, getD_put, if_neg (fun z => hne z.1)]
    · rfl

/-- What is done to one book changes nothing of another: it is there, as it was, and shows what it showed. -/
theorem keep_other {s : Sf} (h : ShInv s) (o : Oq) (j : Nat) (hj : j < s.bs.length) (hn : (s.bs[j]'hj).nm ≠ o.nm) : (s.bs[j]'hj) ∈ (doOp s o).1.bs ∧ ∀ q : Nat, q < s.cs.length → (q : Int) ∈ pages (s.bs[j]'hj).rs → (doOp s o).1.ps.getD q 0 = s.ps.getD q 0 := by
  unfold doOp
  split
  · exact ⟨List.getElem_mem hj, fun _ _ _ => rfl⟩
  rename_i ho
  have ho : opOk o = true := by simpa using ho
  split
  · exact ⟨List.getElem_mem hj, fun _ _ _ => rfl⟩
  rename_i hr
  have hr : refused s.bs o = 0 := by simpa using hr
  obtain ⟨r1, r2, r3, r4, r5⟩ := refused_parts hr
  split
  · exact ⟨mem_insert_old _ _ _ (List.getElem_mem hj), fun _ _ _ => rfl⟩
  rename_i q1
  have hfi := r1 q1
  obtain ⟨i, hi, hfe, hnm⟩ := find_in s.bs o.nm (by omega)
  have hij : i ≠ j := fun e => hn (by subst e; exact hnm)
  rw [hfe, bookAt_of s.bs i hi, Int.toNat_natCast]
  have hset : ∀ b : Pb, (s.bs[j]'hj) ∈ s.bs.set i b := fun b => List.mem_iff_getElem.2 ⟨j, by rw [List.length_set]; exact hj, by rw [List.getElem_set_ne hij]⟩
  split
  · refine ⟨?_, fun q hq hm => ?_⟩
    · simp only [List.mem_append]
      by_cases hlt : j < i
      · exact .inl (List.mem_iff_getElem.2 ⟨j, by rw [List.length_take]; omega, by rw [List.getElem_take]⟩)
      · exact .inr (List.mem_iff_getElem.2 ⟨j - (i + 1), by rw [List.length_drop]; omega, by rw [List.getElem_drop]; congr 1; omega⟩)
    · simp only [cutBook]
      rw [bookAt_of s.bs i hi]
      exact drop_sees h i j hi hj hij _ (fun q => by have := drop_count_le (pages (s.bs[i]'hi).rs) 0 (q : Int); unfold Pb.cnt; omega) q hq hm
  split
  · exact ⟨mem_insert_old _ _ _ (List.getElem_mem hj), fun _ _ _ => rfl⟩
  have hpg : ∀ page : Int, (if o.at_ < 16 then (pages (s.bs[i]'hi).rs).getD o.at_.toNat 0 else -1) = page → 0 ≤ page → page ∈ pages (s.bs[i]'hi).rs := fun page hp h0 => by
    split at hp
    · have hl : o.at_.toNat < (pages (s.bs[i]'hi).rs).length := by rw [pages_length]; omega
      rw [List.getD_eq_getElem?_getD, List.getElem?_eq_getElem hl] at hp
      rw [← hp]
      exact List.getElem_mem hl
    · omega
  obtain ⟨page, hp⟩ : ∃ page, (if o.at_ < 16 then (pages (s.bs[i]'hi).rs).getD o.at_.toNat 0 else -1) = page := ⟨_, rfl⟩
  rw [hp]
  have hpm := hpg page hp
  unfold doKind
  split
  · exact ⟨List.getElem_mem hj, fun _ _ _ => rfl⟩
  split
  · exact ⟨hset _, fun _ _ _ => rfl⟩
  split
  · refine ⟨?_, fun q hq hm => ?_⟩
    · simp only [cutBook]
      refine List.mem_iff_getElem.2 ⟨j, by simp; exact hj, ?_⟩
      rw [List.getElem_set_ne hij, List.getElem_set_ne hij]
    · simp only [cutBook]
      rw [bookAt_of s.bs i hi]
      exact drop_sees h i j hi hj hij _ (fun q => by have := drop_count_le (pages (s.bs[i]'hi).rs) o.va.toNat (q : Int); unfold Pb.cnt; omega) q hq hm
  split
  · split
    · rename_i h0
      refine ⟨hset _, fun q hq hm => ?_⟩
      have e : dropOne (s.cs, s.ps) page = dropAll (s.cs, s.ps) [page] := rfl
      simp only
      rw [e]
      refine drop_sees h i j hi hj hij _ (fun q => ?_) q hq hm
      by_cases z : page = (q : Int)
      · have h5 := mem_cnt (b := s.bs[i]'hi) (q := q) (by rw [← z]; exact hpm h0)
        rw [z, List.count_cons_self, List.count_nil]
        omega
      · rw [List.count_cons_of_ne (fun y => z y), List.count_nil]
        have := cnt_nonneg (s.bs[i]'hi) (q : Int)
        omega
    · exact ⟨List.getElem_mem hj, fun _ _ _ => rfl⟩
  · refine ⟨?_, fun q hq hm => write_sees h o i j hi hj hij page hpm q hq hm⟩
    unfold doWrite
    split
    · exact List.getElem_mem hj
    · split
      · exact hset _
      · exact List.getElem_mem hj

theorem keep_shown {s : Sf} (h : ShInv s) (o : Oq) (j : Nat) (hj : j < s.bs.length) (hn : (s.bs[j]'hj).nm ≠ o.nm) : (s.bs[j]'hj) ∈ (doOp s o).1.bs ∧ shownV (doOp s o).1.ps (s.bs[j]'hj).rs (s.bs[j]'hj).sz.toNat = shownV s.ps (s.bs[j]'hj).rs (s.bs[j]'hj).sz.toNat := by
  have hk := keep_other h o j hj hn
  refine ⟨hk.1, ?_⟩
  have hparts := shown_parts h j hj
  have hl := h.cells.p
  unfold shownV
  refine List.map_congr_left (fun k hkm => ?_)
  have hk16 : k < 16 := by have := List.mem_range.1 hkm; omega
  unfold valAt
  split
  · rfl
  · rename_i h0
    obtain ⟨q, hq⟩ := Int.eq_ofNat_of_zero_le (show 0 ≤ (pages (s.bs[j]'hj).rs).getD k 0 by omega)
    have hlt := (hparts.2.2 k hk16).2
    rw [hq, Int.toNat_natCast]
    refine hk.2 q (by omega) ?_
    have hkl : k < (pages (s.bs[j]'hj).rs).length := by rw [pages_length]; omega
    rw [← hq, List.getD_eq_getElem?_getD, List.getElem?_eq_getElem hkl]
    exact List.getElem_mem hkl
end Go.Proofs.Ytchlkdhnjejgnaa

namespace Go.Proofs.Ytchlkdhnjejgnaa
open Go.RowKit

set_option linter.unusedVariables false

set_option maxRecDepth 100000


/-- A cell of a block is written. -/
theorem set_at {W : World} {b : Nat} {cs : Array Value} {t : TypeId} (h : W.heap[b]? = some (.cells cs t (0, 0))) (i : Nat) (x : Value) : (W.setCell ⟨b, i, none⟩ x).heap[b]? = some (.cells (cs.setIfInBounds i x) t (0, 0)) := by
  obtain ⟨hlt, hk⟩ := Array.getElem?_eq_some_iff.1 h
  show (W.heap.modify b _)[b]? = _
  rw [Array.getElem?_eq_getElem (by rw [Array.size_modify]; exact hlt), Array.getElem_modify_self, hk]
  rfl
end Go.Proofs.Ytchlkdhnjejgnaa

