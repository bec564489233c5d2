/-
  Contracts and plain laws, one chapter behind the other.
-/
import Derived.Laws.MakeOwn
import Derived.Deep.RegionHeld3
import Derived.Deep.RegionLaw
import Derived.Test.YtjhfeegilhmgkaaGreatDoorM01
import Derived.Test.YtjhfeegilhmgkaaGreatDoorM02
import Derived.Test.YtjhfeegilhmgkaaGreatDoorM03
import Derived.Test.YtjhfeegilhmgkaaGreatDoorM05
namespace Go.Proofs.YtjhfeegilhmgkaaGreatDoor
open Nums

set_option linter.unusedVariables false

set_option maxRecDepth 100000


def memAt (t : Int) (r : Int × Int) : Bool := inB t 0 1000 && repOk r.1 r.2 && (!decide (t = 0) || decide (r = (0, 0)))

def memN (ts : List Int) (rs : List (Int × Int)) (n : Nat) : Bool := (List.range n).all fun j => memAt (ts.getD j 0) (rs.getD j (0, 0))

def memOk (ts : List Int) (rs : List (Int × Int)) : Bool := decide (ts.length = 4) && decide (rs.length = 4) && memN ts rs 4

theorem memOk_no {ts : List Int} {rs : List (Int × Int)} (h : ¬ (ts.length = 4 ∧ rs.length = 4)) : memOk ts rs = false := by
  rw [memOk]
  by_cases h1 : ts.length = 4
  · have h2 : ¬ rs.length = 4 := fun e => h ⟨h1, e⟩
    rw [decide_eq_false h2, Bool.and_false, Bool.false_and]
  · rw [decide_eq_false h1, Bool.false_and, Bool.false_and]

theorem memOk_len {ts : List Int} {rs : List (Int × Int)} (h : memOk ts rs = true) : ts.length = 4 ∧ rs.length = 4 := by
  by_cases hc : ts.length = 4 ∧ rs.length = 4
  · exact hc
  · rw [memOk_no hc] at h; cases h

theorem memOk_at {ts : List Int} {rs : List (Int × Int)} (h : memOk ts rs = true) (j : Nat) (hj : j < 4) : memAt (ts.getD j 0) (rs.getD j (0, 0)) = true := by
  rw [memOk, Bool.and_eq_true] at h
  exact List.all_eq_true.1 h.2 j (List.mem_range.2 hj)

def knownIn (ts : List Int) (client tag : Int) : Int := if ts.getD client.toNat 0 < tag then 0 else if tag = ts.getD client.toNat 0 then 1 else 2

/-- As the program looks it up, where the memo is right. -/
def knownT (ts : List Int) (client tag : Int) : Int := if inB client 0 3 = true ∧ inB tag 1 1000 = true then knownIn ts client tag else -1

theorem knownT_new {ts : List Int} {client tag : Int} (h : knownT ts client tag = 0) : (0 ≤ client ∧ client ≤ 3) ∧ (1 ≤ tag ∧ tag ≤ 1000) ∧ ts.getD client.toNat 0 < tag := by
  unfold knownT at h
  split at h
  · rename_i hc
    rw [inB_iff, inB_iff] at hc
    refine ⟨hc.1, hc.2, ?_⟩
    unfold knownIn at h
    split at h
    · assumption
    · split at h <;> omega
  · omega

theorem getD_set_self {α : Type} (xs : List α) (i : Nat) (x d : α) (h : i < xs.length) : (xs.set i x).getD i d = x := by
  rw [List.getD_eq_getElem?_getD, List.getElem?_set_self h]; rfl

theorem getD_set_other {α : Type} (xs : List α) (i j : Nat) (x d : α) (h : i ≠ j) : (xs.set i x).getD j d = xs.getD j d := by
  rw [List.getD_eq_getElem?_getD, List.getElem?_set_ne h, ← List.getD_eq_getElem?_getD]

/-- What is noted is right again. -/
theorem memOk_set {ts : List Int} {rs : List (Int × Int)} {client tag : Int} {r : Int × Int} (h : memOk ts rs = true) (hk : knownT ts client tag = 0) (hr : repOk r.1 r.2 = true) : memOk (ts.set client.toNat tag) (rs.set client.toNat r) = true := by
  obtain ⟨h1, h2⟩ := memOk_len h
  obtain ⟨hc, ht, hlt⟩ := knownT_new hk
  rw [memOk, List.length_set, List.length_set, h1, h2, Bool.and_eq_true]
  refine ⟨rfl, ?_⟩
  unfold memN
  rw [List.all_eq_true]
  intro j hj
  rw [List.mem_range] at hj
  by_cases e : client.toNat = j
  · subst e
    rw [getD_set_self _ _ _ _ (by omega), getD_set_self _ _ _ _ (by omega), memAt, hr, (inB_iff tag 0 1000).2 (by omega), decide_eq_false (show ¬ tag = 0 by omega)]
    rfl
  · rw [getD_set_other _ _ _ _ _ e, getD_set_other _ _ _ _ _ e]
    exact memOk_at h j hj

theorem memOk_zero : memOk [0, 0, 0, 0] [(0, 0), (0, 0), (0, 0), (0, 0)] = true := by decide
end Go.Proofs.YtjhfeegilhmgkaaGreatDoor

namespace Go.Proofs.YtjhfeegilhmgkaaGreatDoor
set_option linter.unusedVariables false

set_option maxRecDepth 100000


/-- A shelf, the tags and the replies that were told last. -/
structure Rp where
  s : Sf
  ts : List Int
  rs : List (Int × Int)

def Rp.zero : Rp := ⟨⟨[], [], []⟩, [], []⟩

def rpStep (x : Rp) (e : Ent) : Rp := ⟨(doOp x.s e.o).1, x.ts.set e.cl.toNat e.tg, x.rs.set e.cl.toNat (doOp x.s e.o).2⟩

def rpFrom (x : Rp) (l : List Ent) : Rp := l.foldl rpStep x

def rpNew (n : Int) : Rp := ⟨⟨(newPool n).1.1, (newPool n).1.2, []⟩, [0, 0, 0, 0], [(0, 0), (0, 0), (0, 0), (0, 0)]⟩

def rpOk (n : Int) (l : List Ent) : Bool := inB n 1 24 && logOk l

def replay (n : Int) (l : List Ent) : Rp × Bool := if rpOk n l = true then (rpFrom (rpNew n) l, true) else (Rp.zero, false)

structure RpInv (x : Rp) : Prop where
  s : ShInv x.s
  m : memOk x.ts x.rs = true

theorem rpNew_inv {n : Int} (h : 1 ≤ n ∧ n ≤ 24) : RpInv (rpNew n) := ⟨new_inv n h, memOk_zero⟩

/-- What is told is a right reply. -/
theorem do_rep {s : Sf} (h : ShInv s) (o : Oq) : repOk (doOp s o).2.1 (doOp s o).2.2 = true := by
  have key : ∀ c v : Int, 0 ≤ c ∧ c ≤ 9 → 0 ≤ v ∧ v ≤ 1000 → (c = 0 ∨ v = 0) → repOk c v = true := fun c v h1 h2 h3 => by
    rw [repOk, (inB_iff _ _ _).2 h1, (inB_iff _ _ _).2 h2]
    rcases h3 with rfl | rfl <;> simp
  have hps : ∀ j : Nat, 0 ≤ s.ps.getD j 0 ∧ s.ps.getD j 0 ≤ 999 := fun j => by
    by_cases hj : j < s.cs.length
    · have := h.cells.val j hj
      omega
    · have hl := h.cells.p
      have : s.ps.getD j 0 = 0 := by rw [List.getD_eq_getElem?_getD, List.getElem?_eq_none (by omega)]; rfl
      omega
  unfold doOp
  split
  · exact key 1 0 (by omega) (by omega) (.inr rfl)
  rename_i hok0
  have hok : opOk o = true := by simpa using hok0
  split
  · have hr : 0 ≤ refused s.bs o ∧ refused s.bs o ≤ 8 := by
      unfold refused
      repeat (first | omega | (split <;> try omega))
    show repOk (refused s.bs o) 0 = true
    exact key _ 0 (by omega) (by omega) (.inr rfl)
  rename_i href0
  have href : refused s.bs o = 0 := Classical.not_not.1 href0
  split
  · exact key 0 0 (by omega) (by omega) (.inl rfl)
  rename_i hk1
  split
  · exact key 0 0 (by omega) (by omega) (.inl rfl)
  split
  · exact key 0 0 (by omega) (by omega) (.inl rfl)
  · obtain ⟨i, hi, hfp, hnm⟩ := find_in s.bs o.nm (by have := (refused_parts href).1 hk1; omega)
    have hb : bookAt s.bs (findP s.bs o.nm) = s.bs[i] := by rw [hfp]; exact bookAt_of s.bs i hi
    have hp := book_parts (h.oks _ (List.getElem_mem hi))
    have he := (refused_parts href).2.2.2.2
    rw [hb] at he ⊢
    generalize (if o.at_ < 16 then (pages s.bs[i].rs).getD o.at_.toNat 0 else -1) = pg
    unfold doKind
    split
    · show repOk 0 (if pg < 0 then 0 else s.ps.getD pg.toNat 0) = true
      by_cases hpg : pg < 0
      · rw [if_pos hpg]
        exact key 0 0 (by omega) (by omega) (.inl rfl)
      · rw [if_neg hpg]
        have := hps pg.toNat
        exact key 0 _ (by omega) (by omega) (.inl rfl)
    split
    · rename_i hk8
      have := he hk8
      have := hp.2.2.1
      show repOk 0 (s.bs[i].ep + 1) = true
      exact key 0 _ (by omega) (by omega) (.inl rfl)
    split
    · exact key 0 0 (by omega) (by omega) (.inl rfl)
    split
    · by_cases hpg : 0 ≤ pg
      · rw [if_pos hpg]
        exact key 0 0 (by omega) (by omega) (.inl rfl)
      · rw [if_neg hpg]
        exact key 0 0 (by omega) (by omega) (.inl rfl)
    · unfold doWrite
      repeat (first | exact key 0 0 (by omega) (by omega) (.inl rfl) | exact key 9 0 (by omega) (by omega) (.inr rfl) | split)

theorem stepOk_parts {n : Nat} {t : List Int} {e : Ent} (h : stepOk n t e = true) : entOk e = true ∧ e.sq = (n : Int) + 1 ∧ t.getD e.cl.toNat 0 < e.tg := by
  simp only [stepOk, Bool.and_eq_true, decide_eq_true_eq] at h
  exact ⟨h.1.1, h.1.2, h.2⟩

theorem step_known {n : Nat} {t : List Int} {e : Ent} (h : stepOk n t e = true) : knownT t e.cl e.tg = 0 := by
  obtain ⟨h1, -, h3⟩ := stepOk_parts h
  have bd := entOk_bd h1
  rw [knownT, if_pos ⟨(inB_iff _ _ _).2 bd.2.2.1, (inB_iff _ _ _).2 bd.2.1⟩, knownIn, if_pos h3]

theorem step_inv {x : Rp} (hx : RpInv x) {n : Nat} {e : Ent} (h : stepOk n x.ts e = true) : RpInv (rpStep x e) := ⟨do_inv hx.s e.o, memOk_set hx.m (step_known h) (do_rep hx.s e.o)⟩

theorem rpFrom_take (x : Rp) (l : List Ent) (k : Nat) (hk : k < l.length) : rpFrom x (l.take (k + 1)) = rpStep (rpFrom x (l.take k)) l[k] := by
  rw [List.take_succ_eq_append_getElem hk, rpFrom, List.foldl_append]
  rfl

/-- While a right log is replayed, the tags are those that the log's order asks for. -/
theorem replay_round {n : Int} {l : List Ent} (hn : 1 ≤ n ∧ n ≤ 24) (hl : inOrd 0 tags0 l = l.length) : ∀ k, k ≤ l.length → RpInv (rpFrom (rpNew n) (l.take k)) ∧ inOrd k (rpFrom (rpNew n) (l.take k)).ts (l.drop k) = l.length
  | 0, _ => ⟨by simpa [rpFrom] using rpNew_inv hn, by simpa [rpFrom, rpNew, tags0] using hl⟩
  | k + 1, hk => by
    obtain ⟨h1, h2⟩ := replay_round hn hl k (by omega)
    have hlt : k < l.length := by omega
    cases hs : stepOk k (rpFrom (rpNew n) (l.take k)).ts l[k] with
    | false => rw [inOrd_no hlt hs] at h2; omega
    | true =>
      rw [inOrd_yes hlt hs] at h2
      rw [rpFrom_take _ l k hlt]
      exact ⟨step_inv h1 hs, h2⟩

theorem replay_step {n : Int} {l : List Ent} (hn : 1 ≤ n ∧ n ≤ 24) (hl : inOrd 0 tags0 l = l.length) (k : Nat) (hk : k < l.length) : stepOk k (rpFrom (rpNew n) (l.take k)).ts l[k] = true := by
  have h2 := (replay_round hn hl k (by omega)).2
  cases hs : stepOk k (rpFrom (rpNew n) (l.take k)).ts l[k] with
  | false => rw [inOrd_no hk hs] at h2; omega
  | true => rfl

theorem rpOk_parts {n : Int} {l : List Ent} (h : rpOk n l = true) : (1 ≤ n ∧ n ≤ 24) ∧ l.length ≤ 120 ∧ inOrd 0 tags0 l = l.length := by
  simp only [rpOk, logOk, Bool.and_eq_true, decide_eq_true_eq, inB_iff] at h
  exact ⟨h.1, h.2.1, h.2.2⟩
end Go.Proofs.YtjhfeegilhmgkaaGreatDoor

namespace Go.Proofs.YtjhfeegilhmgkaaGreatDoor
open Go.RowKit

set_option linter.unusedVariables false

set_option maxRecDepth 100000


set_option maxHeartbeats 3200000 in
theorem eqBooks_same (v v' : Value) (bs ms : List Bk) (w : World) (hp : ms.map plainB = bs.map plainB) (r : ReadsB w.heap.size w v bs) (r' : ReadsB w.heap.size w v' ms) :
    Calls Tryz.prog 95 #[v, v'] w fun e w' => e = .returned (.bool true) ∧ Below w.heap.size w w' := by
  have RM : Hid _ := r.maps
  have RM' : Hid _ := r'.maps
  have hl := plain_len hp
  have HP : Hid _ := hp
  obtain ⟨o1, cap1, rfl, m1, c1, -⟩ := r.row
  obtain ⟨o2, cap2, rfl, m2, c2, -⟩ := r'.row
  have C1 : Hid _ := five_cells c1
  have C2 : Hid _ := five_cells c2
  have HL : Hid (ms.length = bs.length) := hl
  rw [hl]
  unfold maxLen at m1
  clear c1 c2 m2 r r' hp hl
  go_enter Tryz.func95, Tryz.ntmps95
  go_wp2
  go_loopw [5] (fun i wr => ∃ k : Nat, k ≤ bs.length ∧ i = .int .i64 k ∧ Below w.heap.size w wr) (fun i _ => bs.length - (intOf i).toNat)
  case atStart => exact ⟨0, Nat.zero_le _, rfl, Below.refl _ _⟩
  case round =>
    obtain ⟨k, hk, rfl, hb⟩ := hrel
    by_cases hlt : k < bs.length
    · have hlt2 : k < ms.length := by have := HL.out; omega
      obtain ⟨g1, of1, rfl, q1, a0, a1, a2, a3, a4⟩ := C1.out k hlt
      obtain ⟨g2, of2, rfl, q2, b0, b1, b2, b3, b4⟩ := C2.out k hlt2
      have rm := (RM.out bs[k] (List.getElem_mem hlt)).below hb
      have rm' := (RM'.out ms[k] (List.getElem_mem hlt2)).below hb
      have hpk := plain_at HP.out k hlt2 hlt
      generalize bs[k] = x at a0 a1 a2 a3 a4 rm hpk
      generalize ms[k] = y at b0 b1 b2 b3 b4 rm' hpk
      obtain ⟨nm, sz, m, rs, fx, ep⟩ := x
      obtain ⟨nm', sz', m', rs', fx', ep'⟩ := y
      simp only [plainB, Prod.mk.injEq] at a0 a1 a2 a3 a4 b0 b1 b2 b3 b4 rm rm' hpk
      obtain ⟨rfl, rfl, rfl, rfl, rfl⟩ := hpk
      have hne := BelowOf.any wr
      have l1 : g1 < wr.heap.size := Nat.lt_of_lt_of_le q1 hb.size
      have l2 : g2 < wr.heap.size := Nat.lt_of_lt_of_le q2 hb.size
      have HEQ : ∀ q : BelowOf wr, Calls Tryz.prog 153 #[.agg #[.string nm', .int .i64 sz', m, .bool fx', .int .i64 ep'], .agg #[.string nm', .int .i64 sz', m', .bool fx', .int .i64 ep']] q.w' fun e w' => e = .returned (.bool true) ∧ Below q.w'.heap.size q.w' w' := fun q => eqBook_same nm' sz' m m' rs' fx' ep' q.w' (rm.of hb.size q) (rm'.of hb.size q)
      have d0 := BelowOf.cell ((hb.cell (p := ⟨g1, of1 + k * 5, none⟩) q1).trans a0) l1
      have d1 := BelowOf.cell ((hb.cell (p := ⟨g1, of1 + k * 5 + 1, none⟩) q1).trans a1) l1
      have d2 := BelowOf.cell ((hb.cell (p := ⟨g1, of1 + k * 5 + 2, none⟩) q1).trans a2) l1
      have d3 := BelowOf.cell ((hb.cell (p := ⟨g1, of1 + k * 5 + 3, none⟩) q1).trans a3) l1
      have d4 := BelowOf.cell ((hb.cell (p := ⟨g1, of1 + k * 5 + 4, none⟩) q1).trans a4) l1
      have f0 := BelowOf.cell ((hb.cell (p := ⟨g2, of2 + k * 5, none⟩) q2).trans b0) l2
      have f1 := BelowOf.cell ((hb.cell (p := ⟨g2, of2 + k * 5 + 1, none⟩) q2).trans b1) l2
      have f2 := BelowOf.cell ((hb.cell (p := ⟨g2, of2 + k * 5 + 2, none⟩) q2).trans b2) l2
      have f3 := BelowOf.cell ((hb.cell (p := ⟨g2, of2 + k * 5 + 3, none⟩) q2).trans b3) l2
      have f4 := BelowOf.cell ((hb.cell (p := ⟨g2, of2 + k * 5 + 4, none⟩) q2).trans b4) l2
      have g1' : (0 : Int) ≤ (k : Int) := by omega
      have g2' : (k : Int) < (bs.length : Int) := by omega
      clear a0 a1 a2 a3 a4 b0 b1 b2 b3 b4 C1 C2 RM RM' rm rm' HP
      go_wp2_with fail
      refine wp_region_of (by kernel_rfl) (by kernel_rfl) ?_
      repeat (go_big_quiet_step ((first | (go_at_call 153; exact calls_of (HEQ _)) | rfl)))
      refine wpQuiet_nil ?_
      intro w5 hw5
      obtain ⟨⟨wx, cx⟩, hwx⟩ := hw5
      have b5 : Below wr.heap.size wr w5 := by rw [hwx]; exact cx
      have hb5 := hb.trans (b5.mono hb.size)
      clear hwx cx wx hne d0 d1 d2 d3 d4 f0 f1 f2 f3 f4 HEQ
      go_wp2_with fail
      go_roundw
      case rel => exact ⟨k + 1, by omega, by go_num, hb5⟩
      case measure => simp [intOf]; omega
    · go_wp2
      go_ret
      exact ⟨rfl, hb⟩
end Go.Proofs.YtjhfeegilhmgkaaGreatDoor

namespace Go.Proofs.YtjhfeegilhmgkaaGreatDoor
open Go.RowKit

set_option linter.unusedVariables false

set_option maxRecDepth 100000

/-- make([]int64, n): a row of noughts, at the end of memory. -/
theorem made_ints (n : Nat) (hn : n ≤ 1048576) : ∃ M : Array Value, M.toList = (List.replicate n (0 : Int)).map (Value.int .i64) ∧ (∀ W : World, (Instr.makeSlice 25 (.int .i64 (n : Int)) (.int .i64 (n : Int))).run Tryz.prog W = .ok (.slice (some ⟨W.heap.size, 0, none⟩) n n) (W.alloc (.cells M 2))) ∧
    ∀ (W : World) (base : Nat), base ≤ W.heap.size → (W.alloc (.cells M 2)).ownsRow base 2 1 (.slice (some ⟨W.heap.size, 0, none⟩) n n) n ((List.replicate n (0 : Int)).map (Value.int .i64)) := by
  obtain ⟨i0, hi, hz0, hz1, hz2⟩ := info_parts Tryz.infoI64
  have e : (madeCells (Value.int .i64 0).cells n).toList = (List.replicate n (0 : Int)).map (Value.int .i64) := by
    show (madeCells #[.int .i64 0] n).toList = _
    rw [toList_madeCells_one]
    simp
  refine ⟨madeCells (Value.int .i64 0).cells n, e, fun W => ?_, fun W base hb => ?_⟩
  · have h := run_make (P := Tryz.prog) W 25 2 i0 (.int .i64 0) Tryz.underlying25 hi hz0 .i64 .i64 (n : Int) (n : Int) (by omega) (by omega) (by rw [hz2]; omega) (by omega)
    rw [hz1, Nat.mul_one, Int.toNat_natCast] at h
    simpa using h
  · have h := World.ownsRow_lit (base := base) (size := 1) (e := 2) W (madeCells (Value.int .i64 0).cells n) n hb (by unfold maxLen; omega) (by rw [size_madeCells]; omega)
    rwa [e] at h

theorem int_ne {x y : Int} (h : (x != y) = true) : x ≠ y := by simpa using h

theorem int_same {x y : Int} (h : (x != y) = false) : x = y := by simpa using h

set_option maxHeartbeats 800000 in
theorem eqInts_any (v1 v2 : Value) (xs ys : List Int) (w : World) (h1 : Reads w.heap.size w v1 (xs.map (Value.int .i64))) (h2 : Reads w.heap.size w v2 (ys.map (Value.int .i64))) :
    Calls Tryz.prog 96 #[v1, v2] w fun e w' => e = .returned (.bool (decide (xs = ys))) ∧ Below w.heap.size w w' := by
  obtain ⟨o1, cap1, rfl, m1, c1, -⟩ := h1
  obtain ⟨o2, cap2, rfl, m2, c2, -⟩ := h2
  simp only [List.length_map] at m1 m2 c1 c2 ⊢
  by_cases hlen : xs.length = ys.length
  · rw [← hlen]
    have C1 : Hid (∀ j u, (xs.map (Value.int .i64))[j]? = some u → ∃ g off, o1 = some ⟨g, off, none⟩ ∧ g < w.heap.size ∧ w.cell? ⟨g, off + j, none⟩ = some u) := c1
    have C2 : Hid (∀ j u, (ys.map (Value.int .i64))[j]? = some u → ∃ g off, o2 = some ⟨g, off, none⟩ ∧ g < w.heap.size ∧ w.cell? ⟨g, off + j, none⟩ = some u) := c2
    have HL : Hid (xs.length = ys.length) := hlen
    have hle : ys.length ≤ xs.length := by omega
    have hge : xs.length ≤ ys.length := by omega
    unfold maxLen at m1
    clear c1 c2 m2 hlen
    go_enter Tryz.func96, Tryz.ntmps96
    go_wp2
    go_loopw [5] (fun i wr => ∃ k : Nat, k ≤ xs.length ∧ i = .int .i64 k ∧ xs.take k = ys.take k ∧ Below w.heap.size w wr) (fun i _ => xs.length - (intOf i).toNat)
    case atStart => exact ⟨0, Nat.zero_le _, rfl, rfl, Below.refl _ _⟩
    case round =>
      obtain ⟨k, hk, rfl, htk, hb⟩ := hrel
      have HT : Hid (xs.take k = ys.take k) := htk
      clear htk
      by_cases hlt : k < xs.length
      · have hlt2 : k < ys.length := by omega
        obtain ⟨g1, of1, rfl, q1, cc1⟩ := C1.out k (.int .i64 xs[k]) (by simp [hlt])
        obtain ⟨g2, of2, rfl, q2, cc2⟩ := C2.out k (.int .i64 ys[k]) (by simp [hlt2])
        generalize hx : xs[k] = x at cc1
        generalize hy : ys[k] = y at cc2
        have HX : Hid (xs[k] = x) := hx
        have HY : Hid (ys[k] = y) := hy
        clear hx hy C1 C2
        have d1 := (hb.cell (p := ⟨g1, of1 + k, none⟩) q1).trans cc1
        have d2 := (hb.cell (p := ⟨g2, of2 + k, none⟩) q2).trans cc2
        clear cc1 cc2
        go_wp2
        go_quiet (fail)
        go_wp2
        · have hne : x ≠ y := int_ne (by assumption)
          rw [← HX.out, ← HY.out] at hne
          go_ret
          exact ⟨ret_bool (by simp [ne_at xs ys k hlt hlt2 hne]), ⟨hb.os, hb.tape, hb.output, hb.size, hb.block⟩⟩
        · have he : x = y := int_same (by assumption)
          rw [← HX.out, ← HY.out] at he
          go_roundw
          case rel => exact ⟨k + 1, by omega, by go_num, take_more xs ys k hlt hlt2 HT.out he, ⟨hb.os, hb.tape, hb.output, hb.size, hb.block⟩⟩
          case measure => simp [intOf]; omega
      · go_wp2
        go_ret
        exact ⟨ret_bool (by simp [all_taken xs ys k hlt HL.out HT.out]), hb⟩
  · have hn : ((xs.length : Int) != (ys.length : Int)) = true := by rw [bne_iff_ne]; omega
    have HX : Hid (decide (xs = ys) = false) := by rw [Hid, decide_eq_false_iff_not]; intro e; rw [e] at hlen; exact hlen rfl
    unfold maxLen at m1 m2
    clear hlen c1 c2
    go_enter Tryz.func96, Tryz.ntmps96
    go_wp2
    go_ret
    exact ⟨ret_bool HX.out.symm, Below.refl _ _⟩

def marksI (k : Int) (n : Nat) : List Int := (List.range n).map fun i : Nat => k + (i : Int)

theorem marksI_length (k : Int) (n : Nat) : (marksI k n).length = n := by simp [marksI]

theorem marksI_get (k : Int) (n j : Nat) (h : j < n) : ((marksI k n).map (Value.int .i64))[j]? = some (.int .i64 (k + j)) := by simp [marksI, h]

theorem marked_setI (k : Int) (xs : List Value) (j : Nat) (h : j < xs.length) :
    ((marksI k j).map (Value.int .i64) ++ xs.drop j).set j (.int .i64 (k + j)) = (marksI k (j + 1)).map (Value.int .i64) ++ xs.drop (j + 1) := by
  have hl : ((marksI k j).map (Value.int .i64)).length = j := by simp [marksI]
  have hs : (marksI k (j + 1)).map (Value.int .i64) = (marksI k j).map (Value.int .i64) ++ [.int .i64 (k + j)] := by simp [marksI, List.range_succ]
  rw [List.set_append_right _ _ (by omega), hl, Nat.sub_self, List.drop_eq_getElem_cons h, List.set_cons_zero, hs]
  exact (List.append_assoc _ [Value.int .i64 (k + j)] _).symm

theorem marked_allI (k : Int) (xs : List Value) (n : Nat) (h : xs.length = n) : (marksI k n).map (Value.int .i64) ++ xs.drop n = (marksI k n).map (Value.int .i64) := by
  rw [List.drop_of_length_le (by omega)]; simp

set_option maxHeartbeats 800000 in
theorem markedI_any (g cap n base : Nat) (k : Int) (xs : List Value) (w : World) (hk : 0 ≤ k) (hn : k + n ≤ 1099511627776) (own : w.ownsRow base 2 1 (.slice (some ⟨g, 0, none⟩) n cap) n xs) :
    Calls Tryz.prog 102 #[.slice (some ⟨g, 0, none⟩) n cap, .int .i64 k] w fun e w' => e = .returned (.int .i64 (k + n)) ∧ w'.ownsRow base 2 1 (.slice (some ⟨g, 0, none⟩) n cap) n ((marksI k n).map (Value.int .i64)) ∧ Upto g w w' := by
  have hx : xs.length = n := by simpa using own.1
  have hg := own.lt g rfl
  go_enter Tryz.func102, Tryz.ntmps102
  go_wp2
  go_loopw [1, 5] (fun q i wr => ∃ j : Nat, j ≤ n ∧ i = .int .i64 j ∧ q = .int .i64 (k + j) ∧ wr.ownsRow base 2 1 (.slice (some ⟨g, 0, none⟩) n cap) n ((marksI k j).map (Value.int .i64) ++ xs.drop j) ∧ Upto g w wr) (fun _ i _ => n - (intOf i).toNat)
  case atStart => exact ⟨0, Nat.zero_le _, rfl, by simp, by simpa [marksI] using own, Upto.refl _ _⟩
  case round =>
    obtain ⟨j, hj, rfl, rfl, ow, u⟩ := hrel
    clear own
    by_cases hlt : j < n
    · have hc0 := ow.cellAt j (by omega)
      have hf := ow.frozenAt j
      have hst := (ow.stored j (.int .i64 (k + j))).1
      rw [marked_setI k xs j (by omega)] at hst
      have HST : Hid ((wr.setCell ⟨g, j, none⟩ (.int .i64 (k + j))).ownsRow base 2 1 (.slice (some ⟨g, 0, none⟩) n cap) n ((marksI k (j + 1)).map (Value.int .i64) ++ xs.drop (j + 1))) := hst
      obtain ⟨u0, hu0⟩ : ∃ u0, ((marksI k j).map (Value.int .i64) ++ xs.drop j)[j]? = some u0 := ⟨_, List.getElem?_eq_getElem (by simp [marksI_length]; omega)⟩
      have hc : wr.cell? ⟨g, j, none⟩ = some u0 := hc0.trans hu0
      have u2 : Upto g w (wr.setCell ⟨g, j, none⟩ (.int .i64 (k + j))) := u.setCell _ (.inl rfl) _
      clear ow hc0 hu0 hst u
      go_wp2_with fail
      go_roundw
      case rel => exact ⟨j + 1, by omega, by go_num, by go_num, HST.out, u2⟩
      case measure => simp [intOf]; omega
    · obtain rfl : j = n := by omega
      rw [marked_allI k xs j hx] at ow
      go_wp2_with fail
      go_ret
      exact ⟨rfl, ow, u⟩

/-- A row of one's own, marked; whatever other row lies in another block stays. -/
theorem markedIRow_any (v : Value) (n base : Nat) (k : Int) (xs : List Value) (w : World) (hk : 0 ≤ k) (hn : k + n ≤ 1099511627776) (hbase : base ≤ w.heap.size) (own : w.ownsRow base 2 1 v n xs) :
    Calls Tryz.prog 102 #[v, .int .i64 k] w fun e w' => e = .returned (.int .i64 (k + n)) ∧ w'.ownsRow base 2 1 v n ((marksI k n).map (Value.int .i64)) ∧ Below base w w' ∧ w.heap.size ≤ w'.heap.size ∧ ∀ i, i < w.heap.size → v.ownBlock ≠ some i → w'.heap[i]? = w.heap[i]? := by
  rcases own.2 with ⟨rfl, rfl⟩ | ⟨g, cap, cur, rfl, hg, _⟩
  · go_enter Tryz.func102, Tryz.ntmps102
    go_wp2
    refine wp_loop_rounds 1 ?_
    rw [rounds_succ]
    go_wp2
    go_ret
    exact ⟨ret_int (by simp), World.ownsRow_nil _ _ _ _, Below.refl _ _, Nat.le_refl _, fun _ _ _ => rfl⟩
  · refine (markedI_any g cap n base k xs w hk hn own).mono ?_
    rintro e w' ⟨he, ho, hu⟩
    exact ⟨he, ho, hu.toBelow hbase hg, hu.size, fun i hi hn => hu.block i hi (fun e => hn (by rw [e]; rfl))⟩

set_option maxHeartbeats 800000 in
theorem heldI_any (v : Value) (n : Nat) (k : Int) (w : World) (hk : 0 ≤ k) (hn : k + n ≤ 1099511627776) (hr : Reads w.heap.size w v ((marksI k n).map (Value.int .i64))) :
    Calls Tryz.prog 106 #[v, .int .i64 k] w fun e w' => e = .returned (.int .i64 (k + n)) ∧ Below w.heap.size w w' := by
  obtain ⟨o, cap, rfl, hm, hc, -⟩ := hr
  have hl : ((marksI k n).map (Value.int .i64)).length = n := by simp [marksI_length]
  rw [hl] at hm ⊢
  have HC : Hid (∀ j u, ((marksI k n).map (Value.int .i64))[j]? = some u → ∃ g off, o = some ⟨g, off, none⟩ ∧ g < w.heap.size ∧ w.cell? ⟨g, off + j, none⟩ = some u) := hc
  clear hc hl hm
  go_enter Tryz.func106, Tryz.ntmps106
  go_wp2
  go_loopw [1, 5] (fun q i wr => ∃ j : Nat, j ≤ n ∧ i = .int .i64 j ∧ q = .int .i64 (k + j) ∧ Below w.heap.size w wr) (fun _ i _ => n - (intOf i).toNat)
  case atStart => exact ⟨0, Nat.zero_le _, rfl, by simp, Below.refl _ _⟩
  case round =>
    obtain ⟨j, hj, rfl, rfl, hb⟩ := hrel
    by_cases hlt : j < n
    · obtain ⟨g, off, rfl, hg, hx⟩ := HC.out j _ (marksI_get k n j hlt)
      have hx1 : wr.cell? ⟨g, off + j, none⟩ = some (.int .i64 (k + j)) := (hb.cell (p := ⟨g, off + j, none⟩) hg).trans hx
      have g1 : (0 : Int) ≤ (j : Int) := by omega
      have g2 : (j : Int) < (n : Int) := by omega
      clear HC hx
      go_wp2
      go_roundw
      case rel => exact ⟨j + 1, by omega, by go_num, by go_num, hb⟩
      case measure => simp [intOf]; omega
    · obtain rfl : j = n := by omega
      go_wp2_with fail
      go_ret
      exact ⟨rfl, hb⟩
end Go.Proofs.YtjhfeegilhmgkaaGreatDoor

namespace Go.Proofs.YtjhfeegilhmgkaaGreatDoor
open Go.RowKit

set_option linter.unusedVariables false

set_option maxRecDepth 100000


/-- A box of a pool: its two rows. -/
theorem pool_box (w : World) (v1 v2 : Value) (T : TypeId) : ∃ W0, W0 = w.alloc (.cells #[v1, v2] T) ∧ W0.heap[w.heap.size]? = some (.cells #[v1, v2] T (0, 0)) ∧ Below w.heap.size w W0 ∧ W0.heap.size = w.heap.size + 1 :=
  ⟨_, rfl, heap_alloc_new w _, bw_alloc (Below.refl _ _), by simp⟩

theorem getD_some (xs : List Int) (j : Nat) (h : j < xs.length) : (xs.map (Value.int .i64))[j]? = some (.int .i64 (xs.getD j 0)) := by
  rw [List.getElem?_map, List.getElem?_eq_getElem h, List.getD_eq_getElem?_getD, List.getElem?_eq_getElem h]; rfl
end Go.Proofs.YtjhfeegilhmgkaaGreatDoor

namespace Go.Proofs.YtjhfeegilhmgkaaGreatDoor
open Go.RowKit

set_option linter.unusedVariables false

set_option maxRecDepth 100000


/-- A pool whose two rows are the call's own and lie apart. -/
structure OwnP (base : Nat) (w : World) (v1 v2 : Value) (cs ps : List Int) : Prop where
  c : w.ownsRow base 2 1 v1 cs.length (cs.map (Value.int .i64))
  p : w.ownsRow base 2 1 v2 ps.length (ps.map (Value.int .i64))
  apart : ∀ g, v1.ownBlock = some g → v2.ownBlock ≠ some g

theorem OwnP.below {base : Nat} {w w' : World} {v1 v2 : Value} {cs ps : List Int} (h : OwnP base w v1 v2 cs ps) (b : Below w.heap.size w w') : OwnP base w' v1 v2 cs ps := ⟨owns_below h.c b, owns_below h.p b, h.apart⟩

theorem OwnP.mono {base base' : Nat} {w : World} {v1 v2 : Value} {cs ps : List Int} (h : OwnP base w v1 v2 cs ps) (b : base' ≤ base) : OwnP base' w v1 v2 cs ps := ⟨owns_mono h.c b, owns_mono h.p b, h.apart⟩

theorem OwnP.upto {base c : Nat} {w w' : World} {v1 v2 : Value} {cs ps : List Int} (h : OwnP base w v1 v2 cs ps) (u : Upto c w w') (hc : c < base) : OwnP base w' v1 v2 cs ps := ⟨ownsRow_upto h.c u hc, ownsRow_upto h.p u hc, h.apart⟩

theorem OwnP.r1 {base : Nat} {w : World} {v1 v2 : Value} {cs ps : List Int} (h : OwnP base w v1 v2 cs ps) : Reads w.heap.size w v1 (cs.map (Value.int .i64)) := Reads.of_own h.c

theorem OwnP.r2 {base : Nat} {w : World} {v1 v2 : Value} {cs ps : List Int} (h : OwnP base w v1 v2 cs ps) : Reads w.heap.size w v2 (ps.map (Value.int .i64)) := Reads.of_own h.p

theorem OwnP.nil (base : Nat) (w : World) : OwnP base w (.slice none 0 0) (.slice none 0 0) [] [] := ⟨owns_nil _ _ _ _, owns_nil _ _ _ _, fun g h => by cases h⟩

/-- The answer's box is written. -/
theorem pool_end (w W : World) (u1 u2 x y : Value) (b : Nat) (cs ps : List Int) (hb : w.heap.size ≤ b) (k : W.heap[b]? = some (.cells #[x, y] 27 (0, 0))) (own : OwnP (b + 1) W u1 u2 cs ps) (d : Below w.heap.size w W) :
    ((W.setCell ⟨b, 0, none⟩ u1).setCell ⟨b, 1, none⟩ u2).heap[b]? = some (.cells #[u1, u2] 27 (0, 0)) ∧ OwnP w.heap.size ((W.setCell ⟨b, 0, none⟩ u1).setCell ⟨b, 1, none⟩ u2) u1 u2 cs ps ∧ Below w.heap.size w ((W.setCell ⟨b, 0, none⟩ u1).setCell ⟨b, 1, none⟩ u2) := by
  obtain ⟨h1, h2⟩ := set_two k u1 u2
  exact ⟨h1, (own.upto h2 (by omega)).mono (by omega), d.trans (h2.toBelow d.size (by omega))⟩

/-- Two new rows of noughts, made in either order, and the answer's box written. -/
theorem new_end {w W0 : World} {M : Array Value} {m : Nat} {x y : Value} (k0 : W0.heap[w.heap.size]? = some (.cells #[x, y] 27 (0, 0))) (d0 : Below w.heap.size w W0) (z0 : W0.heap.size = w.heap.size + 1)
    (hown : ∀ (W : World) (base : Nat), base ≤ W.heap.size → (W.alloc (.cells M 2)).ownsRow base 2 1 (.slice (some ⟨W.heap.size, 0, none⟩) m m) m ((List.replicate m (0 : Int)).map (Value.int .i64)))
    (a b : Nat) (hab : (a = w.heap.size + 1 ∧ b = w.heap.size + 1 + 1) ∨ (a = w.heap.size + 1 + 1 ∧ b = w.heap.size + 1)) :
    (((((W0.setCell ⟨w.heap.size, 0, none⟩ (.slice (some ⟨a, 0, none⟩) m m)).setCell ⟨w.heap.size, 1, none⟩ (.slice (some ⟨b, 0, none⟩) m m)).alloc (.cells M 2)).alloc (.cells M 2)).drew).heap[w.heap.size]? = some (.cells #[.slice (some ⟨a, 0, none⟩) m m, .slice (some ⟨b, 0, none⟩) m m] 27 (0, 0)) ∧
    OwnP w.heap.size (((((W0.setCell ⟨w.heap.size, 0, none⟩ (.slice (some ⟨a, 0, none⟩) m m)).setCell ⟨w.heap.size, 1, none⟩ (.slice (some ⟨b, 0, none⟩) m m)).alloc (.cells M 2)).alloc (.cells M 2)).drew) (.slice (some ⟨a, 0, none⟩) m m) (.slice (some ⟨b, 0, none⟩) m m) (List.replicate m 0) (List.replicate m 0) ∧
    Below w.heap.size w (((((W0.setCell ⟨w.heap.size, 0, none⟩ (.slice (some ⟨a, 0, none⟩) m m)).setCell ⟨w.heap.size, 1, none⟩ (.slice (some ⟨b, 0, none⟩) m m)).alloc (.cells M 2)).alloc (.cells M 2)).drew) := by
  obtain ⟨h1, h2⟩ := set_two k0 (.slice (some ⟨a, 0, none⟩) m m) (.slice (some ⟨b, 0, none⟩) m m)
  generalize hW : (W0.setCell ⟨w.heap.size, 0, none⟩ (.slice (some ⟨a, 0, none⟩) m m)).setCell ⟨w.heap.size, 1, none⟩ (.slice (some ⟨b, 0, none⟩) m m) = W1 at h1 h2 ⊢
  have s1 : W1.heap.size = w.heap.size + 1 := by rw [← hW, World.size_setCell, World.size_setCell, z0]
  clear hW
  have s2 : (W1.alloc (.cells M 2)).heap.size = w.heap.size + 1 + 1 := by simp [s1]
  have o1 := hown W1 w.heap.size (by omega)
  have o2 := hown (W1.alloc (.cells M 2)) w.heap.size (by omega)
  rw [s1] at o1
  rw [s2] at o2
  have o3 := o1.alloc (.cells M 2)
  have e1 := (Below.heap_alloc (W1.alloc (.cells M 2)) (.cells M 2) w.heap.size (by omega)).trans ((Below.heap_alloc W1 (.cells M 2) w.heap.size (by omega)).trans h1)
  have hl : (List.replicate m (0 : Int)).length = m := by simp
  refine ⟨e1, ?_, bw_drew (bw_alloc (bw_alloc (d0.trans (h2.toBelow (by omega) (Nat.le_refl _)))))⟩
  rcases hab with ⟨rfl, rfl⟩ | ⟨rfl, rfl⟩
  · exact ⟨by rw [hl]; exact o3, by rw [hl]; exact o2, fun g q => by simp [Value.ownBlock] at q ⊢; omega⟩
  · exact ⟨by rw [hl]; exact o2, by rw [hl]; exact o3, fun g q => by simp [Value.ownBlock] at q ⊢; omega⟩

set_option maxHeartbeats 800000 in
theorem specNewPool_any (n : Int) (w : World) :
    Calls Tryz.prog 178 #[.int .i64 n] w fun e w' => ∃ u1 u2 : Value, e = .returned (.tuple #[.agg #[u1, u2], .bool (newPool n).2]) ∧ OwnP w.heap.size w' u1 u2 (newPool n).1.1 (newPool n).1.2 ∧ Below w.heap.size w w' := by
  obtain ⟨W0, hW0, k0, d0, z0⟩ := pool_box w (.slice none 0 0) (.slice none 0 0) 27
  have HW0 : Hid (W0 = _) := hW0
  have p0 := at_cell k0 0
  have p1 := at_cell k0 1
  have f0 := at_open k0 0
  have f1 := at_open k0 1
  clear hW0
  cases hn : (decide ((1 : Int) ≤ n) && decide (n ≤ 24))
  · have hv : newPool n = (([], []), false) := by
      unfold newPool
      rw [if_neg]
      rintro ⟨h1, h2⟩
      simp [h1, h2] at hn
    rw [hv]
    have HS : Hid _ := pool_end w W0 (.slice none 0 0) (.slice none 0 0) _ _ w.heap.size [] [] (Nat.le_refl _) k0 (OwnP.nil _ _) d0
    clear hv k0
    go_enter Tryz.func178, Tryz.ntmps178
    go_wp2_with fail
    rw [← HW0.out]
    refine (l1In_any _ _ _ _).mono ?_
    rintro e w' ⟨rfl, rfl⟩
    rw [hn]
    go_wp2_with fail
    exact bodyPost_ret (v := .tuple #[.agg #[.slice none 0 0, .slice none 0 0], .bool false]) (by simp [results, Tryz.results178, go_sem, at_cell HS.out.1]) rfl ⟨_, _, rfl, HS.out.2⟩
  · have hb : 1 ≤ n ∧ n ≤ 24 := by simpa using hn
    obtain ⟨m, rfl⟩ := Int.eq_ofNat_of_zero_le (show 0 ≤ n by omega)
    have hv : newPool (m : Int) = ((List.replicate m 0, List.replicate m 0), true) := by
      unfold newPool
      rw [if_pos hb, Int.toNat_natCast]
    rw [hv]
    obtain ⟨M, hM, hmk, hown⟩ := made_ints m (by omega)
    clear hv
    go_enter Tryz.func178, Tryz.ntmps178
    go_wp2_with fail
    rw [← HW0.out]
    refine (l1In_any _ _ _ _).mono ?_
    rintro e w' ⟨rfl, rfl⟩
    rw [hn]
    go_wp2_with fail
    go_region
    · have HS : Hid _ := new_end k0 d0 z0 hown (w.heap.size + 1) (w.heap.size + 1 + 1) (.inl ⟨rfl, rfl⟩)
      clear k0 d0 hown hmk HW0
      go_wp2_with fail
      exact bodyPost_ret (v := .tuple #[.agg #[.slice (some ⟨w.heap.size + 1, 0, none⟩) m m, .slice (some ⟨w.heap.size + 1 + 1, 0, none⟩) m m], .bool true]) (by simp [results, Tryz.results178, go_sem, at_cell HS.out.1]) rfl ⟨_, _, rfl, HS.out.2⟩
    · have HS : Hid _ := new_end k0 d0 z0 hown (w.heap.size + 1 + 1) (w.heap.size + 1) (.inr ⟨rfl, rfl⟩)
      clear k0 d0 hown hmk HW0
      go_wp2_with fail
      exact bodyPost_ret (v := .tuple #[.agg #[.slice (some ⟨w.heap.size + 1 + 1, 0, none⟩) m m, .slice (some ⟨w.heap.size + 1, 0, none⟩) m m], .bool true]) (by simp [results, Tryz.results178, go_sem, at_cell HS.out.1]) rfl ⟨_, _, rfl, HS.out.2⟩
end Go.Proofs.YtjhfeegilhmgkaaGreatDoor

namespace Go.Proofs.YtjhfeegilhmgkaaGreatDoor
open Go.RowKit

set_option linter.unusedVariables false

set_option maxRecDepth 100000


/-- A pool that is read: its rows. -/
structure RP (B : Nat) (w : World) (v1 v2 : Value) (cs ps : List Int) : Prop where
  c : Reads B w v1 (cs.map (Value.int .i64))
  p : Reads B w v2 (ps.map (Value.int .i64))

theorem RP.below {B : Nat} {w w' : World} {v1 v2 : Value} {cs ps : List Int} (h : RP B w v1 v2 cs ps) (k : Below B w w') : RP B w' v1 v2 cs ps := ⟨h.c.below k, h.p.below k⟩

theorem RP.mono {B B' : Nat} {w : World} {v1 v2 : Value} {cs ps : List Int} (h : RP B w v1 v2 cs ps) (k : B ≤ B') : RP B' w v1 v2 cs ps := ⟨h.c.mono k, h.p.mono k⟩

theorem RP.of {B : Nat} {W : World} {v1 v2 : Value} {cs ps : List Int} (h : RP B W v1 v2 cs ps) (y : B ≤ W.heap.size) (p : BelowOf W) : RP p.w'.heap.size p.w' v1 v2 cs ps := ((h.mono y).below p.h).mono p.h.size

theorem RP.forms {B : Nat} {w : World} {v1 v2 : Value} {cs ps : List Int} (h : RP B w v1 v2 cs ps) : ∃ o1 k1 o2 k2, v1 = .slice o1 cs.length k1 ∧ v2 = .slice o2 ps.length k2 := by
  obtain ⟨⟨o, k, e, -⟩, ⟨o', k', e', -⟩⟩ := h
  exact ⟨o, k, o', k', by rw [e, List.length_map], by rw [e', List.length_map]⟩

theorem OwnP.reads {base : Nat} {w : World} {v1 v2 : Value} {cs ps : List Int} (h : OwnP base w v1 v2 cs ps) : RP w.heap.size w v1 v2 cs ps := ⟨h.r1, h.r2⟩

theorem OwnP.rng {lo hi base : Nat} {w w' : World} {v1 v2 : Value} {cs ps : List Int} (h : OwnP base w v1 v2 cs ps) (k : Rng lo hi w w') (hb : hi ≤ base) : OwnP base w' v1 v2 cs ps := ⟨own_rng h.c k hb, own_rng h.p k hb, h.apart⟩

/-- The blocks of a pool of one's own lie from base on, below the end of memory. -/
theorem OwnP.span {base : Nat} {w : World} {v1 v2 : Value} {cs ps : List Int} (h : OwnP base w v1 v2 cs ps) : ∀ g, (v1.ownBlock = some g ∨ v2.ownBlock = some g) → base ≤ g ∧ g < w.heap.size := by
  rintro g (h1 | h1)
  · exact h.c.lt g h1
  · exact h.p.lt g h1

theorem OwnP.forms {base : Nat} {w : World} {v1 v2 : Value} {cs ps : List Int} (h : OwnP base w v1 v2 cs ps) : ∃ o1 c1 o2 c2, v1 = .slice o1 cs.length c1 ∧ v2 = .slice o2 ps.length c2 := by
  obtain ⟨o1, c1, h1⟩ := own_slice h.c
  obtain ⟨o2, c2, h2⟩ := own_slice h.p
  exact ⟨o1, c1, o2, c2, h1, h2⟩

set_option maxHeartbeats 800000 in
theorem eqPool_any (a1 a2 b1 b2 : Value) (cs ps cs' ps' : List Int) (w : World) (r : RP w.heap.size w a1 a2 cs ps) (r' : RP w.heap.size w b1 b2 cs' ps') :
    Calls Tryz.prog 94 #[.agg #[a1, a2], .agg #[b1, b2]] w fun e w' => e = .returned (.bool (decide (cs = cs') && decide (ps = ps'))) ∧ Below w.heap.size w w' := by
  obtain ⟨W0, hW0, k0, k1, d0, z0⟩ := box2 w #[a1, a2] #[b1, b2] 27 27
  have r0 := (r.below d0).mono d0.size
  have r1 := (r'.below d0).mono d0.size
  have HW0 : Hid (W0 = _) := hW0
  clear hW0 r r'
  go_enter Tryz.func94, Tryz.ntmps94
  go_wp2_with fail
  rw [← HW0.out]
  clear HW0
  refine (eqInts_any a1 b1 cs cs' _ r0.c r1.c).mono ?_
  rintro e w1 ⟨rfl, b⟩
  replace k0 := (b.block _ (by omega)).trans k0
  replace k1 := (b.block _ (by omega)).trans k1
  replace d0 := bw_call d0 b
  replace r0 := (r0.below b).mono b.size
  replace r1 := (r1.below b).mono b.size
  have p0 := at_cell k0 1
  have p1 := at_cell k1 1
  by_cases hc : cs = cs'
  · rw [decide_eq_true hc]
    go_wp2_with fail
    refine (eqInts_any a2 b2 ps ps' _ r0.p r1.p).mono ?_
    rintro e w2 ⟨rfl, b2'⟩
    replace d0 := bw_call d0 b2'
    by_cases hp : ps = ps'
    · rw [decide_eq_true hp]
      have HC : Hid (cs = cs') := hc
      have HP : Hid (ps = ps') := hp
      clear hc hp
      go_wp2_with fail
      go_ret
      exact ⟨ret_bool (by simp [HC.out, HP.out]), d0⟩
    · rw [decide_eq_false hp]
      have HP : Hid (¬ ps = ps') := hp
      clear hc hp
      go_wp2_with fail
      go_ret
      exact ⟨ret_bool (by rw [decide_eq_false HP.out, Bool.and_false]), d0⟩
  · rw [decide_eq_false hc]
    have HP : Hid (¬ cs = cs') := hc
    clear hc
    go_wp2_with fail
    go_ret
    exact ⟨ret_bool (by rw [decide_eq_false HP.out, Bool.false_and]), d0⟩

set_option maxHeartbeats 800000 in
theorem heldPool_any (v1 v2 : Value) (n m : Nat) (k : Int) (w : World) (hk : 0 ≤ k) (hk2 : k ≤ 1073741824) (hn : n ≤ 1048576) (hm : m ≤ 1048576) (r : RP w.heap.size w v1 v2 (marksI k n) (marksI (k + n) m)) :
    Calls Tryz.prog 104 #[.agg #[v1, v2], .int .i64 k] w fun e w' => e = .returned (.int .i64 (k + n + m)) ∧ Below w.heap.size w w' := by
  obtain ⟨W0, hW0, k0, d0, z0⟩ := box1 w #[v1, v2] 27
  have r0 := (r.below d0).mono d0.size
  have HW0 : Hid (W0 = _) := hW0
  clear hW0 r
  go_enter Tryz.func104, Tryz.ntmps104
  go_wp2_with fail
  rw [← HW0.out]
  clear HW0
  refine (heldI_any v1 n k _ hk (by omega) r0.c).mono ?_
  rintro e w1 ⟨rfl, b⟩
  replace k0 := (b.block _ (by omega)).trans k0
  replace d0 := bw_call d0 b
  replace r0 := (r0.below b).mono b.size
  have p1 := at_cell k0 1
  have h1 : 0 ≤ k + (n : Int) := by omega
  go_wp2_with fail
  refine (heldI_any v2 m (k + n) _ h1 (by omega) r0.p).mono ?_
  rintro e w2 ⟨rfl, b'⟩
  replace d0 := bw_call d0 b'
  have h2 : 0 ≤ k + (n : Int) + (m : Int) := by omega
  go_wp2_with fail
  go_ret
  exact ⟨rfl, d0⟩
end Go.Proofs.YtjhfeegilhmgkaaGreatDoor

namespace Go.Proofs.YtjhfeegilhmgkaaGreatDoor
open Go.RowKit

set_option linter.unusedVariables false

set_option maxRecDepth 100000


/-- A shelf that is read. -/
structure RS (B : Nat) (w : World) (v1 v2 vb : Value) (cs ps : List Int) (bks : List Bk) : Prop where
  p : RP B w v1 v2 cs ps
  b : ReadsB B w vb bks

theorem RS.below {B : Nat} {w w' : World} {v1 v2 vb : Value} {cs ps : List Int} {bks : List Bk} (h : RS B w v1 v2 vb cs ps bks) (k : Below B w w') : RS B w' v1 v2 vb cs ps bks := ⟨h.p.below k, h.b.below k⟩

theorem RS.mono {B B' : Nat} {w : World} {v1 v2 vb : Value} {cs ps : List Int} {bks : List Bk} (h : RS B w v1 v2 vb cs ps bks) (k : B ≤ B') : RS B' w v1 v2 vb cs ps bks := ⟨h.p.mono k, h.b.mono k⟩

theorem RS.forms {B : Nat} {w : World} {v1 v2 vb : Value} {cs ps : List Int} {bks : List Bk} (h : RS B w v1 v2 vb cs ps bks) : ∃ o1 k1 o2 k2 ob kb, v1 = .slice o1 cs.length k1 ∧ v2 = .slice o2 ps.length k2 ∧ vb = .slice ob bks.length kb := by
  obtain ⟨o1, k1, o2, k2, e1, e2⟩ := h.p.forms
  obtain ⟨ob, kb, e3, -⟩ := h.b.row
  exact ⟨o1, k1, o2, k2, ob, kb, e1, e2, e3⟩

/-- A shelf of one's own. -/
structure OwnS (base : Nat) (w : World) (v1 v2 vb : Value) (cs ps : List Int) (bks : List Bk) : Prop where
  p : OwnP base w v1 v2 cs ps
  b : OwnB base w vb bks
  a : ApartM bks

theorem OwnS.below {base : Nat} {w w' : World} {v1 v2 vb : Value} {cs ps : List Int} {bks : List Bk} (h : OwnS base w v1 v2 vb cs ps bks) (k : Below w.heap.size w w') : OwnS base w' v1 v2 vb cs ps bks := ⟨h.p.below k, h.b.below k, h.a⟩

theorem OwnS.mono {base base' : Nat} {w : World} {v1 v2 vb : Value} {cs ps : List Int} {bks : List Bk} (h : OwnS base w v1 v2 vb cs ps bks) (k : base' ≤ base) : OwnS base' w v1 v2 vb cs ps bks := ⟨h.p.mono k, h.b.mono k, h.a⟩

theorem OwnS.reads {base : Nat} {w : World} {v1 v2 vb : Value} {cs ps : List Int} {bks : List Bk} (h : OwnS base w v1 v2 vb cs ps bks) : RS w.heap.size w v1 v2 vb cs ps bks := ⟨h.p.reads, h.b.reads⟩

theorem OwnB.upto {base c : Nat} {w w' : World} {v : Value} {bs : List Bk} (h : OwnB base w v bs) (u : Upto c w w') (hc : c < base) : OwnB base w' v bs := ⟨ownsRow_upto h.row u hc, fun b hb => ownsRow_upto (h.maps b hb) u hc⟩

theorem OwnS.upto {base c : Nat} {w w' : World} {v1 v2 vb : Value} {cs ps : List Int} {bks : List Bk} (h : OwnS base w v1 v2 vb cs ps bks) (u : Upto c w w') (hc : c < base) : OwnS base w' v1 v2 vb cs ps bks := ⟨h.p.upto u hc, h.b.upto u hc, h.a⟩

theorem OwnS.forms {base : Nat} {w : World} {v1 v2 vb : Value} {cs ps : List Int} {bks : List Bk} (h : OwnS base w v1 v2 vb cs ps bks) : ∃ o1 k1 o2 k2 ob kb, v1 = .slice o1 cs.length k1 ∧ v2 = .slice o2 ps.length k2 ∧ vb = .slice ob bks.length kb := h.reads.forms

set_option maxHeartbeats 1600000 in
theorem eqShelf_same (v1 v2 vb x1 x2 xb : Value) (cs ps : List Int) (bks ms : List Bk) (w : World) (hp : ms.map plainB = bks.map plainB) (r : RS w.heap.size w v1 v2 vb cs ps bks) (r' : RS w.heap.size w x1 x2 xb cs ps ms) :
    Calls Tryz.prog 37 #[.agg #[v1, v2, vb], .agg #[x1, x2, xb]] w fun e w' => e = .returned (.bool true) ∧ Below w.heap.size w w' := by
  obtain ⟨o1, k1, o2, k2, ob, kb, rfl, rfl, rfl⟩ := r.forms
  obtain ⟨o3, k3, o4, k4, oc, kc, rfl, rfl, rfl⟩ := r'.forms
  obtain ⟨W0, hW0, kA, kB, d0, z0⟩ := box2 w #[.slice o1 cs.length k1, .slice o2 ps.length k2, .slice ob bks.length kb] #[.slice o3 cs.length k3, .slice o4 ps.length k4, .slice oc ms.length kc] 30 30
  have HW0 : Hid (W0 = _) := hW0
  have HP : Hid _ := hp
  have r0 := (r.below d0).mono d0.size
  have r1 := (r'.below d0).mono d0.size
  clear hW0 z0 r r' hp
  go_enter Tryz.func37, Tryz.ntmps37
  go_wp2_with fail
  rw [← HW0.out]
  clear HW0
  refine (eqPool_any _ _ _ _ cs ps cs ps _ r0.p r1.p).mono ?_
  rintro e w1 ⟨rfl, b1⟩
  replace kA := (b1.block _ (heap_lt kA)).trans kA
  replace kB := (b1.block _ (heap_lt kB)).trans kB
  replace d0 := bw_call d0 b1
  replace r0 := (r0.below b1).mono b1.size
  replace r1 := (r1.below b1).mono b1.size
  clear b1
  have e1 : (decide (cs = cs) && decide (ps = ps)) = true := by simp
  have pA := at_cell kA 2
  have pB := at_cell kB 2
  go_wp2_with fail
  clear pA pB
  refine (eqBooks_same _ _ bks ms _ HP.out r0.b r1.b).mono ?_
  rintro e w2 ⟨rfl, b2⟩
  replace d0 := bw_call d0 b2
  clear b2 kA kB r0 r1
  go_wp2_with fail
  go_ret
  exact ⟨rfl, d0⟩
end Go.Proofs.YtjhfeegilhmgkaaGreatDoor

