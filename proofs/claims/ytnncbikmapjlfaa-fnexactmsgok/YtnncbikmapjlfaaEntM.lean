/-
  Chapter 11, plain: an entry, a log, a beginning, the Seq of a tag.
-/
import Derived.Test.YtnncbikmapjlfaaOp1
namespace Go.Proofs.Ytnncbikmapjlfaa
set_option linter.unusedVariables false
set_option maxRecDepth 100000

structure Ent where
  sq : Int
  cl : Int
  tg : Int
  o : Oq
def Ent.zero : Ent := ⟨0, 0, 0, Oq.zero⟩
/-- An entry's nine cells. -/
def entC (e : Ent) : List Value := [.int .i64 e.sq, .int .i64 e.cl, .int .i64 e.tg, .int .i64 e.o.k, .string e.o.nm, .string e.o.ot, .int .i64 e.o.at_, .int .i64 e.o.va, .int .i64 e.o.ep]
theorem entC_len (e : Ent) : (entC e).length = 9 := rfl
def entOk (e : Ent) : Bool := inB e.sq 1 1000 && inB e.tg 1 1000 && inB e.cl 0 3 && changes e.o
def stepOk (n : Nat) (t : List Int) (e : Ent) : Bool := entOk e && decide (e.sq = (n : Int) + 1) && decide (t.getD e.cl.toNat 0 < e.tg)
def inOrd : Nat → List Int → List Ent → Nat
  | n, _, [] => n
  | n, t, e :: es => if stepOk n t e = true then inOrd (n + 1) (t.set e.cl.toNat e.tg) es else n
def tags0 : List Int := [0, 0, 0, 0]
def logOk (l : List Ent) : Bool := decide (l.length ≤ 120) && decide (inOrd 0 tags0 l = l.length)
def oqEq (x y : Oq) : Bool := decide (x.k = y.k) && decide (x.nm = y.nm) && decide (x.ot = y.ot) && decide (x.at_ = y.at_) && decide (x.va = y.va) && decide (x.ep = y.ep)
def entEq (x y : Ent) : Bool := decide (x.sq = y.sq) && decide (x.cl = y.cl) && decide (x.tg = y.tg) && oqEq x.o y.o
def begs : List Ent → List Ent → Bool
  | [], _ => true
  | _ :: _, [] => false
  | x :: xs, y :: ys => entEq x y && begs xs ys
def begins (a b : List Ent) : Bool := logOk a && logOk b && begs a b
def seqIn : List Ent → Int → Int → Int
  | [], _, _ => 0
  | e :: es, c, t => if e.cl = c ∧ e.tg = t then e.sq else seqIn es c t
def seqOf (l : List Ent) (c t : Int) : Int := if logOk l = true then seqIn l c t else 0

theorem oqEq_iff (x y : Oq) : oqEq x y = true ↔ x = y := by
  cases x; cases y
  simp [oqEq, and_assoc]
theorem entEq_iff (x y : Ent) : entEq x y = true ↔ x = y := by
  cases x; cases y
  simp [entEq, oqEq_iff, and_assoc]
theorem begs_iff : ∀ a b : List Ent, begs a b = true ↔ a = b.take a.length
  | [], b => by simp [begs]
  | x :: xs, [] => by simp [begs]
  | x :: xs, y :: ys => by simp [begs, entEq_iff, begs_iff xs ys]
theorem begs_len {a b : List Ent} (h : begs a b = true) : a.length ≤ b.length := by
  have := congrArg List.length ((begs_iff a b).1 h)
  rw [List.length_take] at this
  omega
theorem begs_self (a : List Ent) : begs a a = true := (begs_iff a a).2 (by simp)
theorem begs_back {a b : List Ent} (h : begs a b = true) : begs b a = decide (a.length = b.length) := by
  by_cases e : a.length = b.length
  · rw [decide_eq_true e]
    have h1 := (begs_iff a b).1 h
    rw [e, List.take_length] at h1
    rw [h1]
    exact begs_self b
  · rw [decide_eq_false e, Bool.eq_false_iff]
    intro h2
    exact e (Nat.le_antisymm (begs_len h) (begs_len h2))
theorem begs_long {a b : List Ent} (h : b.length < a.length) : begs a b = false := by
  rw [Bool.eq_false_iff]
  intro h2
  have := begs_len h2
  omega
theorem begins_self (a : List Ent) : begins a a = logOk a := by simp [begins, begs_self]
theorem begins_back {a b : List Ent} (h : begins a b = true) : begins b a = decide (a.length = b.length) := by
  simp only [begins, Bool.and_eq_true] at h
  rw [begins, h.1.1, h.1.2, begs_back h.2]
  rfl

theorem inOrd_yes {l : List Ent} {k : Nat} {t : List Int} (hk : k < l.length) (h : stepOk k t l[k] = true) : inOrd k t (l.drop k) = inOrd (k + 1) (t.set l[k].cl.toNat l[k].tg) (l.drop (k + 1)) := by
  rw [List.drop_eq_getElem_cons hk, inOrd, if_pos h]
theorem inOrd_no {l : List Ent} {k : Nat} {t : List Int} (hk : k < l.length) (h : stepOk k t l[k] = false) : inOrd k t (l.drop k) = k := by
  rw [List.drop_eq_getElem_cons hk, inOrd, if_neg (by rw [h]; decide)]
theorem inOrd_end {l : List Ent} {k : Nat} {t : List Int} (hk : ¬ k < l.length) : inOrd k t (l.drop k) = k := by
  rw [List.drop_of_length_le (by omega), inOrd]
theorem inOrd_le : ∀ (l : List Ent) (k : Nat) (t : List Int), k ≤ inOrd k t l ∧ inOrd k t l ≤ k + l.length
  | [], k, t => by simp [inOrd]
  | e :: es, k, t => by
    unfold inOrd
    split
    · have := inOrd_le es (k + 1) (t.set e.cl.toNat e.tg)
      simp only [List.length_cons]
      omega
    · simp

theorem entOk_bd {e : Ent} (h : entOk e = true) : (1 ≤ e.sq ∧ e.sq ≤ 1000) ∧ (1 ≤ e.tg ∧ e.tg ≤ 1000) ∧ (0 ≤ e.cl ∧ e.cl ≤ 3) ∧ changes e.o = true := by
  simp only [entOk, Bool.and_eq_true, inB_iff] at h
  exact ⟨h.1.1.1, h.1.1.2, h.1.2, h.2⟩
/-- What a log says of its entries. -/
theorem inOrd_all : ∀ (l : List Ent) (k : Nat) (t : List Int), t.length = 4 → inOrd k t l = k + l.length →
    (∀ i (h : i < l.length), l[i].sq = (k + i : Nat) + 1) ∧ (∀ e ∈ l, t.getD e.cl.toNat 0 < e.tg ∧ entOk e = true) ∧ l.Pairwise (fun a b => a.cl = b.cl → a.tg < b.tg)
  | [], k, t, _, _ => ⟨fun i h => by simp at h, fun e h => by simp at h, List.Pairwise.nil⟩
  | e :: es, k, t, ht, h => by
    unfold inOrd at h
    split at h
    · rename_i hs
      obtain ⟨i1, i2, i3⟩ := inOrd_all es (k + 1) (t.set e.cl.toNat e.tg) (by simpa using ht) (by simp only [List.length_cons] at h; omega)
      simp only [stepOk, Bool.and_eq_true, decide_eq_true_eq] at hs
      have bd := entOk_bd hs.1.1
      have hlt : e.cl.toNat < t.length := by omega
      have key : ∀ x ∈ es, x.cl = e.cl → e.tg < x.tg := fun x hx hc => by
        have := (i2 x hx).1
        rw [hc] at this
        simpa [List.getD, hlt] using this
      refine ⟨fun i hi => ?_, fun x hx => ?_, List.Pairwise.cons (fun x hx hc => key x hx hc.symm) i3⟩
      · cases i with
        | zero => simpa using hs.1.2
        | succ i =>
          have := i1 i (by simpa using hi)
          simp only [List.getElem_cons_succ]
          rw [this]
          congr 1
          omega
      · rcases List.mem_cons.1 hx with rfl | hx
        · exact ⟨hs.2, hs.1.1⟩
        · refine ⟨?_, (i2 x hx).2⟩
          have bx := entOk_bd (i2 x hx).2
          by_cases hc : x.cl = e.cl
          · have := key x hx hc
            rw [hc]
            omega
          · have := (i2 x hx).1
            have hne : ¬ e.cl.toNat = x.cl.toNat := by omega
            simpa [List.getD, List.getElem?_set, hne] using this
    · simp only [List.length_cons] at h
      omega
theorem log_facts {l : List Ent} (h : logOk l = true) : l.length ≤ 120 ∧ (∀ i (h : i < l.length), l[i].sq = (i : Int) + 1) ∧ (∀ e ∈ l, entOk e = true) ∧ l.Pairwise (fun a b => a.cl = b.cl → a.tg < b.tg) := by
  simp only [logOk, Bool.and_eq_true, decide_eq_true_eq] at h
  obtain ⟨i1, i2, i3⟩ := inOrd_all l 0 tags0 rfl (by omega)
  exact ⟨h.1, fun i hi => by have := i1 i hi; simpa using this, fun e he => (i2 e he).2, i3⟩

theorem seqIn_some : ∀ (l : List Ent) (c t : Int) (i : Nat) (hi : i < l.length), l[i].cl = c → l[i].tg = t → (∀ j (hj : j < i), ¬ (l[j].cl = c ∧ l[j].tg = t)) → seqIn l c t = l[i].sq
  | [], c, t, i, hi, _, _, _ => by simp at hi
  | e :: es, c, t, 0, hi, h1, h2, _ => by
    simp only [List.getElem_cons_zero] at h1 h2 ⊢
    rw [seqIn, if_pos ⟨h1, h2⟩]
  | e :: es, c, t, i + 1, hi, h1, h2, h3 => by
    have h0 := h3 0 (by omega)
    simp only [List.getElem_cons_zero] at h0
    rw [seqIn, if_neg h0]
    simp only [List.getElem_cons_succ] at h1 h2 ⊢
    exact seqIn_some es c t i (by simpa using hi) h1 h2 (fun j hj => by have := h3 (j + 1) (by omega); simpa using this)
theorem seqIn_none : ∀ (l : List Ent) (c t : Int), (∀ j (hj : j < l.length), ¬ (l[j].cl = c ∧ l[j].tg = t)) → seqIn l c t = 0
  | [], c, t, _ => rfl
  | e :: es, c, t, h => by
    have h0 := h 0 (by simp)
    simp only [List.getElem_cons_zero] at h0
    rw [seqIn, if_neg h0]
    exact seqIn_none es c t (fun j hj => by have := h (j + 1) (by simpa using hj); simpa using this)
theorem seqIn_or : ∀ (l : List Ent) (c t : Int), seqIn l c t = 0 ∨ ∃ i, ∃ hi : i < l.length, seqIn l c t = l[i].sq ∧ l[i].cl = c ∧ l[i].tg = t
  | [], c, t => .inl rfl
  | e :: es, c, t => by
    rw [seqIn]
    split
    · rename_i h
      exact .inr ⟨0, by simp, rfl, h.1, h.2⟩
    · rcases seqIn_or es c t with h | ⟨i, hi, h⟩
      · exact .inl h
      · exact .inr ⟨i + 1, by simpa using hi, by simpa using h⟩
theorem seqOf_pos {l : List Ent} {c t : Int} (h : 0 < seqOf l c t) : ∃ i, ∃ hi : i < l.length, seqOf l c t = (i : Int) + 1 ∧ l[i].cl = c ∧ l[i].tg = t := by
  unfold seqOf at h ⊢
  split at h
  · rename_i hl
    rw [if_pos hl]
    rcases seqIn_or l c t with e | ⟨i, hi, e1, e2, e3⟩
    · omega
    · refine ⟨i, hi, ?_, e2, e3⟩
      rw [e1, (log_facts hl).2.1 i hi]
  · omega
theorem seqOf_at {l : List Ent} {c t : Int} (hl : logOk l = true) (i : Nat) (hi : i < l.length) (h1 : l[i].cl = c) (h2 : l[i].tg = t) : seqOf l c t = l[i].sq := by
  unfold seqOf
  rw [if_pos hl]
  refine seqIn_some l c t i hi h1 h2 (fun j hj hh => ?_)
  have := List.pairwise_iff_getElem.1 (log_facts hl).2.2.2 j i (by omega) hi hj (by rw [hh.1, h1])
  rw [hh.2, h2] at this
  omega

end Go.Proofs.Ytnncbikmapjlfaa
