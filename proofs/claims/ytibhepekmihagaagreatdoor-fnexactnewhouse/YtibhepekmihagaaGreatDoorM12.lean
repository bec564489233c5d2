/-
  Contracts and plain laws, one chapter behind the other.
-/
import Derived.Test.YtibhepekmihagaaGreatDoorM02
import Derived.Test.YtibhepekmihagaaGreatDoorM07
import Derived.Test.YtibhepekmihagaaGreatDoorM10
import Derived.Test.YtibhepekmihagaaGreatDoorM11
namespace Go.Proofs.YtibhepekmihagaaGreatDoor
open Nums

set_option linter.unusedVariables false

set_option maxRecDepth 100000


def memAt (t : Int) (r : Int × Int) : Bool := inB t 0 1000 && repOk r.1 r.2 && (!decide (t = 0) || decide (r = (0, 0)))

def memN (ts : List Int) (rs : List (Int × Int)) (n : Nat) : Bool := (List.range n).all fun j => memAt (ts.getD j 0) (rs.getD j (0, 0))

def memOk (ts : List Int) (rs : List (Int × Int)) : Bool := decide (ts.length = 4) && decide (rs.length = 4) && memN ts rs 4

theorem memOk_no {ts : List Int} {rs : List (Int × Int)} (h : ¬ (ts.length = 4 ∧ rs.length = 4)) : memOk ts rs = false := by
  rw [memOk]
  by_cases h1 : ts.length = 4
  · have h2 : ¬ rs.length = 4 := fun e => h ⟨h1, e⟩
    rw [decide_eq_false h2, Bool.and_false, Bool.false_and]
  · rw [decide_eq_false h1, Bool.false_and, Bool.false_and]

theorem memOk_len {ts : List Int} {rs : List (Int × Int)} (h : memOk ts rs = true) : ts.length = 4 ∧ rs.length = 4 := by
  by_cases hc : ts.length = 4 ∧ rs.length = 4
  · exact hc
  · rw [memOk_no hc] at h; cases h

theorem memOk_at {ts : List Int} {rs : List (Int × Int)} (h : memOk ts rs = true) (j : Nat) (hj : j < 4) : memAt (ts.getD j 0) (rs.getD j (0, 0)) = true := by
  rw [memOk, Bool.and_eq_true] at h
  exact List.all_eq_true.1 h.2 j (List.mem_range.2 hj)

def knownIn (ts : List Int) (client tag : Int) : Int := if ts.getD client.toNat 0 < tag then 0 else if tag = ts.getD client.toNat 0 then 1 else 2

/-- As the program looks it up, where the memo is right. -/
def knownT (ts : List Int) (client tag : Int) : Int := if inB client 0 3 = true ∧ inB tag 1 1000 = true then knownIn ts client tag else -1

theorem knownT_new {ts : List Int} {client tag : Int} (h : knownT ts client tag = 0) : (0 ≤ client ∧ client ≤ 3) ∧ (1 ≤ tag ∧ tag ≤ 1000) ∧ ts.getD client.toNat 0 < tag := by
  unfold knownT at h
  split at h
  · rename_i hc
    rw [inB_iff, inB_iff] at hc
    refine ⟨hc.1, hc.2, ?_⟩
    unfold knownIn at h
    split at h
    · assumption
    · split at h <;> omega
  · omega

theorem getD_set_self {α : Type} (xs : List α) (i : Nat) (x d : α) (h : i < xs.length) : (xs.set i x).getD i d = x := by
  rw [List.getD_eq_getElem?_getD, List.getElem?_set_self h]; rfl

theorem getD_set_other {α : Type} (xs : List α) (i j : Nat) (x d : α) (h : i ≠ j) : (xs.set i x).getD j d = xs.getD j d := by
  rw [List.getD_eq_getElem?_getD, List.getElem?_set_ne h, ← List.getD_eq_getElem?_getD]

/-- What is noted is right again. -/
theorem memOk_set {ts : List Int} {rs : List (Int × Int)} {client tag : Int} {r : Int × Int} (h : memOk ts rs = true) (hk : knownT ts client tag = 0) (hr : repOk r.1 r.2 = true) : memOk (ts.set client.toNat tag) (rs.set client.toNat r) = true := by
  obtain ⟨h1, h2⟩ := memOk_len h
  obtain ⟨hc, ht, hlt⟩ := knownT_new hk
  rw [memOk, List.length_set, List.length_set, h1, h2, Bool.and_eq_true]
  refine ⟨rfl, ?_⟩
  unfold memN
  rw [List.all_eq_true]
  intro j hj
  rw [List.mem_range] at hj
  by_cases e : client.toNat = j
  · subst e
    rw [getD_set_self _ _ _ _ (by omega), getD_set_self _ _ _ _ (by omega), memAt, hr, (inB_iff tag 0 1000).2 (by omega), decide_eq_false (show ¬ tag = 0 by omega)]
    rfl
  · rw [getD_set_other _ _ _ _ _ e, getD_set_other _ _ _ _ _ e]
    exact memOk_at h j hj

theorem memOk_zero : memOk [0, 0, 0, 0] [(0, 0), (0, 0), (0, 0), (0, 0)] = true := by decide
end Go.Proofs.YtibhepekmihagaaGreatDoor

namespace Go.Proofs.YtibhepekmihagaaGreatDoor
set_option linter.unusedVariables false

set_option maxRecDepth 100000


/-- A shelf, the tags and the replies that were told last. -/
structure Rp where
  s : Sf
  ts : List Int
  rs : List (Int × Int)

def Rp.zero : Rp := ⟨⟨[], [], []⟩, [], []⟩

def rpStep (x : Rp) (e : Ent) : Rp := ⟨(doOp x.s e.o).1, x.ts.set e.cl.toNat e.tg, x.rs.set e.cl.toNat (doOp x.s e.o).2⟩

def rpFrom (x : Rp) (l : List Ent) : Rp := l.foldl rpStep x

def rpNew (n : Int) : Rp := ⟨⟨(newPool n).1.1, (newPool n).1.2, []⟩, [0, 0, 0, 0], [(0, 0), (0, 0), (0, 0), (0, 0)]⟩

def rpOk (n : Int) (l : List Ent) : Bool := inB n 1 24 && logOk l

def replay (n : Int) (l : List Ent) : Rp × Bool := if rpOk n l = true then (rpFrom (rpNew n) l, true) else (Rp.zero, false)

structure RpInv (x : Rp) : Prop where
  s : ShInv x.s
  m : memOk x.ts x.rs = true

theorem rpNew_inv {n : Int} (h : 1 ≤ n ∧ n ≤ 24) : RpInv (rpNew n) := ⟨new_inv n h, memOk_zero⟩

/-- What is told is a right reply. -/
theorem do_rep {s : Sf} (h : ShInv s) (o : Oq) : repOk (doOp s o).2.1 (doOp s o).2.2 = true := by
  have key : ∀ c v : Int, 0 ≤ c ∧ c ≤ 9 → 0 ≤ v ∧ v ≤ 1000 → (c = 0 ∨ v = 0) → repOk c v = true := fun c v h1 h2 h3 => by
    rw [repOk, (inB_iff _ _ _).2 h1, (inB_iff _ _ _).2 h2]
    rcases h3 with rfl | rfl <;> simp
  have hps : ∀ j : Nat, 0 ≤ s.ps.getD j 0 ∧ s.ps.getD j 0 ≤ 999 := fun j => by
    by_cases hj : j < s.cs.length
    · have := h.cells.val j hj
      omega
    · have hl := h.cells.p
      have : s.ps.getD j 0 = 0 := by rw [List.getD_eq_getElem?_getD, List.getElem?_eq_none (by omega)]; rfl
      omega
  unfold doOp
  split
  · exact key 1 0 (by omega) (by omega) (.inr rfl)
  rename_i hok0
  have hok : opOk o = true := by simpa using hok0
  split
  · have hr : 0 ≤ refused s.bs o ∧ refused s.bs o ≤ 8 := by
      unfold refused
      repeat (first | omega | (split <;> try omega))
    show repOk (refused s.bs o) 0 = true
    exact key _ 0 (by omega) (by omega) (.inr rfl)
  rename_i href0
  have href : refused s.bs o = 0 := Classical.not_not.1 href0
  split
  · exact key 0 0 (by omega) (by omega) (.inl rfl)
  rename_i hk1
  split
  · exact key 0 0 (by omega) (by omega) (.inl rfl)
  split
  · exact key 0 0 (by omega) (by omega) (.inl rfl)
  · obtain ⟨i, hi, hfp, hnm⟩ := find_in s.bs o.nm (by have := (refused_parts href).1 hk1; omega)
    have hb : bookAt s.bs (findP s.bs o.nm) = s.bs[i] := by rw [hfp]; exact bookAt_of s.bs i hi
    have hp := book_parts (h.oks _ (List.getElem_mem hi))
    have he := (refused_parts href).2.2.2.2
    rw [hb] at he ⊢
    generalize (if o.at_ < 16 then (pages s.bs[i].rs).getD o.at_.toNat 0 else -1) = pg
    unfold doKind
    split
    · show repOk 0 (if pg < 0 then 0 else s.ps.getD pg.toNat 0) = true
      by_cases hpg : pg < 0
      · rw [if_pos hpg]
        exact key 0 0 (by omega) (by omega) (.inl rfl)
      · rw [if_neg hpg]
        have := hps pg.toNat
        exact key 0 _ (by omega) (by omega) (.inl rfl)
    split
    · rename_i hk8
      have := he hk8
      have := hp.2.2.1
      show repOk 0 (s.bs[i].ep + 1) = true
      exact key 0 _ (by omega) (by omega) (.inl rfl)
    split
    · exact key 0 0 (by omega) (by omega) (.inl rfl)
    split
    · by_cases hpg : 0 ≤ pg
      · rw [if_pos hpg]
        exact key 0 0 (by omega) (by omega) (.inl rfl)
      · rw [if_neg hpg]
        exact key 0 0 (by omega) (by omega) (.inl rfl)
    · unfold doWrite
      repeat (first | exact key 0 0 (by omega) (by omega) (.inl rfl) | exact key 9 0 (by omega) (by omega) (.inr rfl) | split)

theorem stepOk_parts {n : Nat} {t : List Int} {e : Ent} (h : stepOk n t e = true) : entOk e = true ∧ e.sq = (n : Int) + 1 ∧ t.getD e.cl.toNat 0 < e.tg := by
  simp only [stepOk, Bool.and_eq_true, decide_eq_true_eq] at h
  exact ⟨h.1.1, h.1.2, h.2⟩

theorem step_known {n : Nat} {t : List Int} {e : Ent} (h : stepOk n t e = true) : knownT t e.cl e.tg = 0 := by
  obtain ⟨h1, -, h3⟩ := stepOk_parts h
  have bd := entOk_bd h1
  rw [knownT, if_pos ⟨(inB_iff _ _ _).2 bd.2.2.1, (inB_iff _ _ _).2 bd.2.1⟩, knownIn, if_pos h3]

theorem step_inv {x : Rp} (hx : RpInv x) {n : Nat} {e : Ent} (h : stepOk n x.ts e = true) : RpInv (rpStep x e) := ⟨do_inv hx.s e.o, memOk_set hx.m (step_known h) (do_rep hx.s e.o)⟩

theorem rpFrom_take (x : Rp) (l : List Ent) (k : Nat) (hk : k < l.length) : rpFrom x (l.take (k + 1)) = rpStep (rpFrom x (l.take k)) l[k] := by
  rw [List.take_succ_eq_append_getElem hk, rpFrom, List.foldl_append]
  rfl

/-- While a right log is replayed, the tags are those that the log's order asks for. -/
theorem replay_round {n : Int} {l : List Ent} (hn : 1 ≤ n ∧ n ≤ 24) (hl : inOrd 0 tags0 l = l.length) : ∀ k, k ≤ l.length → RpInv (rpFrom (rpNew n) (l.take k)) ∧ inOrd k (rpFrom (rpNew n) (l.take k)).ts (l.drop k) = l.length
  | 0, _ => ⟨by simpa [rpFrom] using rpNew_inv hn, by simpa [rpFrom, rpNew, tags0] using hl⟩
  | k + 1, hk => by
    obtain ⟨h1, h2⟩ := replay_round hn hl k (by omega)
    have hlt : k < l.length := by omega
    cases hs : stepOk k (rpFrom (rpNew n) (l.take k)).ts l[k] with
    | false => rw [inOrd_no hlt hs] at h2; omega
    | true =>
      rw [inOrd_yes hlt hs] at h2
      rw [rpFrom_take _ l k hlt]
      exact ⟨step_inv h1 hs, h2⟩

theorem replay_step {n : Int} {l : List Ent} (hn : 1 ≤ n ∧ n ≤ 24) (hl : inOrd 0 tags0 l = l.length) (k : Nat) (hk : k < l.length) : stepOk k (rpFrom (rpNew n) (l.take k)).ts l[k] = true := by
  have h2 := (replay_round hn hl k (by omega)).2
  cases hs : stepOk k (rpFrom (rpNew n) (l.take k)).ts l[k] with
  | false => rw [inOrd_no hk hs] at h2; omega
  | true => rfl

theorem rpOk_parts {n : Int} {l : List Ent} (h : rpOk n l = true) : (1 ≤ n ∧ n ≤ 24) ∧ l.length ≤ 120 ∧ inOrd 0 tags0 l = l.length := by
  simp only [rpOk, logOk, Bool.and_eq_true, decide_eq_true_eq, inB_iff] at h
  exact ⟨h.1, h.2.1, h.2.2⟩
end Go.Proofs.YtibhepekmihagaaGreatDoor

namespace Go.Proofs.YtibhepekmihagaaGreatDoor
open Go.RowKit

set_option linter.unusedVariables false

set_option maxRecDepth 100000


set_option maxHeartbeats 3200000 in
theorem eqBooks_same (v v' : Value) (bs ms : List Bk) (w : World) (hp : ms.map plainB = bs.map plainB) (r : ReadsB w.heap.size w v bs) (r' : ReadsB w.heap.size w v' ms) :
    Calls Tryz.prog 44 #[v, v'] w fun e w' => e = .returned (.bool true) ∧ Below w.heap.size w w' := by
  have RM : Hid _ := r.maps
  have RM' : Hid _ := r'.maps
  have hl := plain_len hp
  have HP : Hid _ := hp
  obtain ⟨o1, cap1, rfl, m1, c1, -⟩ := r.row
  obtain ⟨o2, cap2, rfl, m2, c2, -⟩ := r'.row
  have C1 : Hid _ := five_cells c1
  have C2 : Hid _ := five_cells c2
  have HL : Hid (ms.length = bs.length) := hl
  rw [hl]
  unfold maxLen at m1
  clear c1 c2 m2 r r' hp hl
  go_enter Tryz.func44, Tryz.ntmps44
  go_wp2
  go_loopw [5] (fun i wr => ∃ k : Nat, k ≤ bs.length ∧ i = .int .i64 k ∧ Below w.heap.size w wr) (fun i _ => bs.length - (intOf i).toNat)
  case atStart => exact ⟨0, Nat.zero_le _, rfl, Below.refl _ _⟩
  case round =>
    obtain ⟨k, hk, rfl, hb⟩ := hrel
    by_cases hlt : k < bs.length
    · have hlt2 : k < ms.length := by have := HL.out; omega
      obtain ⟨g1, of1, rfl, q1, a0, a1, a2, a3, a4⟩ := C1.out k hlt
      obtain ⟨g2, of2, rfl, q2, b0, b1, b2, b3, b4⟩ := C2.out k hlt2
      have rm := (RM.out bs[k] (List.getElem_mem hlt)).below hb
      have rm' := (RM'.out ms[k] (List.getElem_mem hlt2)).below hb
      have hpk := plain_at HP.out k hlt2 hlt
      generalize bs[k] = x at a0 a1 a2 a3 a4 rm hpk
      generalize ms[k] = y at b0 b1 b2 b3 b4 rm' hpk
      obtain ⟨nm, sz, m, rs, fx, ep⟩ := x
      obtain ⟨nm', sz', m', rs', fx', ep'⟩ := y
      simp only [plainB, Prod.mk.injEq] at a0 a1 a2 a3 a4 b0 b1 b2 b3 b4 rm rm' hpk
      obtain ⟨rfl, rfl, rfl, rfl, rfl⟩ := hpk
      have hne := BelowOf.any wr
      have l1 : g1 < wr.heap.size := Nat.lt_of_lt_of_le q1 hb.size
      have l2 : g2 < wr.heap.size := Nat.lt_of_lt_of_le q2 hb.size
      have HEQ : ∀ q : BelowOf wr, Calls Tryz.prog 96 #[.agg #[.string nm', .int .i64 sz', m, .bool fx', .int .i64 ep'], .agg #[.string nm', .int .i64 sz', m', .bool fx', .int .i64 ep']] q.w' fun e w' => e = .returned (.bool true) ∧ Below q.w'.heap.size q.w' w' := fun q => eqBook_same nm' sz' m m' rs' fx' ep' q.w' (rm.of hb.size q) (rm'.of hb.size q)
      have d0 := BelowOf.cell ((hb.cell (p := ⟨g1, of1 + k * 5, none⟩) q1).trans a0) l1
      have d1 := BelowOf.cell ((hb.cell (p := ⟨g1, of1 + k * 5 + 1, none⟩) q1).trans a1) l1
      have d2 := BelowOf.cell ((hb.cell (p := ⟨g1, of1 + k * 5 + 2, none⟩) q1).trans a2) l1
      have d3 := BelowOf.cell ((hb.cell (p := ⟨g1, of1 + k * 5 + 3, none⟩) q1).trans a3) l1
      have d4 := BelowOf.cell ((hb.cell (p := ⟨g1, of1 + k * 5 + 4, none⟩) q1).trans a4) l1
      have f0 := BelowOf.cell ((hb.cell (p := ⟨g2, of2 + k * 5, none⟩) q2).trans b0) l2
      have f1 := BelowOf.cell ((hb.cell (p := ⟨g2, of2 + k * 5 + 1, none⟩) q2).trans b1) l2
      have f2 := BelowOf.cell ((hb.cell (p := ⟨g2, of2 + k * 5 + 2, none⟩) q2).trans b2) l2
      have f3 := BelowOf.cell ((hb.cell (p := ⟨g2, of2 + k * 5 + 3, none⟩) q2).trans b3) l2
      have f4 := BelowOf.cell ((hb.cell (p := ⟨g2, of2 + k * 5 + 4, none⟩) q2).trans b4) l2
      have g1' : (0 : Int) ≤ (k : Int) := by omega
      have g2' : (k : Int) < (bs.length : Int) := by omega
      clear a0 a1 a2 a3 a4 b0 b1 b2 b3 b4 C1 C2 RM RM' rm rm' HP
      go_wp2_with fail
      refine wp_region_of (by kernel_rfl) (by kernel_rfl) ?_
      repeat (go_big_quiet_step ((first | (go_at_call 96; exact calls_of (HEQ _)) | rfl)))
      refine wpQuiet_nil ?_
      intro w5 hw5
      obtain ⟨⟨wx, cx⟩, hwx⟩ := hw5
      have b5 : Below wr.heap.size wr w5 := by rw [hwx]; exact cx
      have hb5 := hb.trans (b5.mono hb.size)
      clear hwx cx wx hne d0 d1 d2 d3 d4 f0 f1 f2 f3 f4 HEQ
      go_wp2_with fail
      go_roundw
      case rel => exact ⟨k + 1, by omega, by go_num, hb5⟩
      case measure => simp [intOf]; omega
    · go_wp2
      go_ret
      exact ⟨rfl, hb⟩
end Go.Proofs.YtibhepekmihagaaGreatDoor

