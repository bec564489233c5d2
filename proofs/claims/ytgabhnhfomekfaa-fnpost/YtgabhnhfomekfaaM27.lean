/-
  Contracts and plain laws, one chapter behind the other.
-/
import Derived.Laws.BitsLemmas
import Derived.Test.YtgabhnhfomekfaaM23
import Derived.Test.YtgabhnhfomekfaaM26
namespace Go.Proofs.Ytgabhnhfomekfaa
set_option linter.unusedVariables false

set_option maxRecDepth 100000


theorem u64_in15 (n : Int) (h0 : 0 ≤ n) (h1 : n < 2 ^ 64) : IntKind.u64.wrap n = n := by
  simp [IntKind.wrap, IntKind.bits, IntKind.signed]
  omega

theorem u64_wf {c : Nat} (h : c < 2 ^ 64) : (Lit.int .u64 (c : Int)).wf = true := by
  simp [Lit.wf, IntKind.min, IntKind.max, IntKind.bits, IntKind.signed]
  omega

theorem or15 {c p : Nat} (h : c < 2 ^ 64) (hp : p < 64) : bits .or .u64 (c : Int) ((2 ^ p : Nat) : Int) = ((c ||| 2 ^ p : Nat) : Int) :=
  (bits_nat .u64 64 (by decide) u64_in15 c (2 ^ p) h (Nat.pow_lt_pow_right (by decide) hp)).2

theorem and15 {c p : Nat} (h : c < 2 ^ 64) (hp : p < 64) : bits .and .u64 (c : Int) ((2 ^ p : Nat) : Int) = ((c &&& 2 ^ p : Nat) : Int) :=
  (bits_nat .u64 64 (by decide) u64_in15 c (2 ^ p) h (Nat.pow_lt_pow_right (by decide) hp)).1

/-- All bits of c but the one at p. -/
def clr (c p : Nat) : Nat := (BitVec.ofNat 64 c &&& ~~~(BitVec.ofNat 64 (2 ^ p))).toNat

theorem clr_lt (c p : Nat) : clr c p < 2 ^ 64 := BitVec.isLt _

theorem andNot15 (c p : Nat) : bits .andNot .u64 (c : Int) ((2 ^ p : Nat) : Int) = ((clr c p : Nat) : Int) := by
  have e : bits .andNot .u64 (c : Int) ((2 ^ p : Nat) : Int) = IntKind.u64.wrap ((BitVec.ofInt 64 (c : Int) &&& ~~~(BitVec.ofInt 64 ((2 ^ p : Nat) : Int))).toNat : Nat) := rfl
  rw [e, BitVec.ofInt_natCast, BitVec.ofInt_natCast]
  exact u64_in15 _ (Int.natCast_nonneg _) (by exact_mod_cast clr_lt c p)

theorem clr_bit {c p : Nat} (h : c < 2 ^ 64) (hp : p < 64) (i : Nat) : (clr c p).testBit i = (c.testBit i && !decide (p = i)) := by
  unfold clr
  rw [← BitVec.getLsbD]
  by_cases hi : i < 64
  · rw [BitVec.getLsbD_and, BitVec.getLsbD_not, BitVec.getLsbD_ofNat, BitVec.getLsbD_ofNat, Nat.testBit_two_pow]
    simp [hi]
  · have h1 : c.testBit i = false := Nat.testBit_lt_two_pow (Nat.lt_of_lt_of_le h (Nat.pow_le_pow_right (by decide) (by omega)))
    rw [h1, Bool.false_and]
    exact BitVec.getLsbD_of_ge _ _ (by omega)

theorem and_bit {c p : Nat} : (c &&& 2 ^ p : Nat) ≠ 0 ↔ c.testBit p = true := by
  constructor
  · intro h
    refine Classical.byContradiction fun hb => h ?_
    rw [Bool.not_eq_true] at hb
    refine Nat.eq_of_testBit_eq fun i => ?_
    rw [Nat.testBit_and, Nat.testBit_two_pow, Nat.zero_testBit]
    by_cases e : p = i
    · subst e; rw [hb, Bool.false_and]
    · rw [decide_eq_false e, Bool.and_false]
  · intro h e
    have q : (c &&& 2 ^ p : Nat).testBit p = true := by rw [Nat.testBit_and, Nat.testBit_two_pow, h, decide_eq_true rfl]; rfl
    rw [e, Nat.zero_testBit] at q
    cases q

/-- Bit p of c is set just where m stands at the place p. -/
def MaskOf (c : Nat) (f : Nat → Option Mg) (m : Mg) : Prop := c < 2 ^ 64 ∧ ∀ p, c.testBit p = true ↔ (p < 60 ∧ f p = some m)

/-- A place is given another letter, or none. -/
def upd (f : Nat → Option Mg) (k : Nat) (o : Option Mg) : Nat → Option Mg := fun p => if p = k then o else f p

theorem upd_at (f : Nat → Option Mg) (k : Nat) (o : Option Mg) : upd f k o k = o := if_pos rfl

theorem upd_ne (f : Nat → Option Mg) {k p : Nat} (o : Option Mg) (h : p ≠ k) : upd f k o p = f p := if_neg h

theorem mask_none {f : Nat → Option Mg} {m : Mg} (h : ∀ p, p < 60 → f p ≠ some m) : MaskOf 0 f m := ⟨by decide, fun p => by
  rw [Nat.zero_testBit]
  exact ⟨fun h' => (by cases h'), fun ⟨h1, h2⟩ => absurd h2 (h p h1)⟩⟩

theorem mask_put {c k : Nat} {f : Nat → Option Mg} {m : Mg} (h : MaskOf c f m) (hk : k < 60) : MaskOf (c ||| 2 ^ k) (upd f k (some m)) m := by
  refine ⟨Nat.or_lt_two_pow h.1 (Nat.pow_lt_pow_right (by decide) (by omega)), fun p => ?_⟩
  rw [Nat.testBit_or, Bool.or_eq_true, h.2 p, Nat.testBit_two_pow, decide_eq_true_iff]
  by_cases e : p = k
  · subst e
    rw [upd_at]
    exact ⟨fun _ => ⟨hk, rfl⟩, fun _ => .inr rfl⟩
  · rw [upd_ne f _ e]
    exact ⟨fun q => q.elim id (fun q => absurd q.symm e), .inl⟩

theorem mask_same {c k : Nat} {f : Nat → Option Mg} {m : Mg} {o : Option Mg} (h : MaskOf c f m) (h1 : f k ≠ some m) (h2 : o ≠ some m) : MaskOf c (upd f k o) m := by
  refine ⟨h.1, fun p => ?_⟩
  rw [h.2 p]
  by_cases e : p = k
  · subst e
    rw [upd_at]
    exact ⟨fun q => absurd q.2 h1, fun q => absurd q.2 h2⟩
  · rw [upd_ne f _ e]

theorem mask_drop {c k : Nat} {f : Nat → Option Mg} {m : Mg} (h : MaskOf c f m) (hk : k < 60) : MaskOf (clr c k) (upd f k none) m := by
  refine ⟨clr_lt c k, fun p => ?_⟩
  rw [clr_bit h.1 (by omega), Bool.and_eq_true, h.2 p]
  by_cases e : p = k
  · subst e
    rw [upd_at]
    simp
  · rw [upd_ne f _ e]
    simp
    intro _ _
    exact fun q => e q.symm

/-- What a line has at a place: the zero letter where nothing stands. -/
def lineAt (f : Nat → Option Mg) : List Mg := (List.range 60).map fun p => (f p).getD Mg.zero

theorem lineAt_len (f : Nat → Option Mg) : (lineAt f).length = 60 := by simp [lineAt]

/-- The letters of a line: all but the zero letters. -/
def lettersIn (l : List Mg) : List Mg := l.filter fun m => !mgEq m Mg.zero

/-- The places of a list, one behind the other. -/
def placesOf (l : List Mg) : Nat → Option Mg := fun p => l[p]?

theorem msgOk_zero : msgOk Mg.zero = false := by decide

theorem ok_not_zero {m : Mg} (h : msgOk m = true) : mgEq m Mg.zero = false := by
  cases e : mgEq m Mg.zero
  · rfl
  · rw [(mgEq_iff _ _).1 e, msgOk_zero] at h
    cases h

theorem filter_all15 {l : List Mg} (h : ∀ m ∈ l, mgEq m Mg.zero = false) : lettersIn l = l := by
  unfold lettersIn
  rw [List.filter_eq_self]
  intro m hm
  rw [h m hm]
  rfl

theorem filter_zeros (n : Nat) : lettersIn (List.replicate n Mg.zero) = [] := by
  unfold lettersIn
  rw [List.filter_eq_nil_iff]
  intro m hm
  rw [(List.mem_replicate.1 hm).2, (mgEq_iff _ _).2 rfl]
  simp

theorem line_places {l : List Mg} (h : l.length ≤ 60) : lineAt (placesOf l) = l ++ List.replicate (60 - l.length) Mg.zero := by
  apply List.ext_getElem?
  intro i
  unfold lineAt placesOf
  rw [List.getElem?_map]
  by_cases hi : i < l.length
  · rw [List.getElem?_range (by omega), List.getElem?_append_left hi]
    simp [List.getElem?_eq_getElem hi]
  · rw [List.getElem?_append_right (by omega)]
    by_cases h60 : i < 60
    · rw [List.getElem?_range h60]
      simp [List.getElem?_eq_none (show l.length ≤ i by omega), List.getElem?_replicate]
      omega
    · rw [List.getElem?_eq_none (by simp; omega)]
      simp [List.getElem?_replicate]
      omega

theorem letters_places {l : List Mg} (h : l.length ≤ 60) (hok : allOk l = true) : lettersIn (lineAt (placesOf l)) = l := by
  rw [line_places h]
  unfold lettersIn
  rw [List.filter_append]
  have e1 := filter_all15 (l := l) (fun m hm => ok_not_zero (List.all_eq_true.1 hok m hm))
  have e2 := filter_zeros (60 - l.length)
  unfold lettersIn at e1 e2
  rw [e1, e2, List.append_nil]

theorem line_taken {l : List Mg} {k : Nat} (h : l.length ≤ 60) (hk : k < l.length) : lineAt (upd (placesOf l) k none) = l.take k ++ Mg.zero :: (l.drop (k + 1) ++ List.replicate (60 - l.length) Mg.zero) := by
  have e0 : lineAt (upd (placesOf l) k none) = (lineAt (placesOf l)).set k Mg.zero := by
    apply List.ext_getElem?
    intro i
    unfold lineAt
    rw [List.getElem?_set, List.getElem?_map, List.getElem?_map]
    by_cases e : k = i
    · subst e
      rw [if_pos rfl, List.getElem?_range (by omega)]
      simp [upd_at]
      omega
    · rw [if_neg e]
      by_cases h60 : i < 60
      · rw [List.getElem?_range h60]
        simp [upd_ne _ _ (Ne.symm e)]
      · rw [List.getElem?_eq_none (by simp; omega)]
        rfl
  rw [e0, line_places h, List.set_append_left _ _ hk, List.set_eq_take_append_cons_drop, if_pos hk, List.append_assoc, List.cons_append]

theorem letters_taken {l : List Mg} {k : Nat} (h : l.length ≤ 60) (hk : k < l.length) (hok : allOk l = true) : lettersIn (lineAt (upd (placesOf l) k none)) = without15 l k := by
  have hm := List.all_eq_true.1 hok
  rw [line_taken h hk]
  have e1 := filter_all15 (l := l.take k) (fun m q => ok_not_zero (hm m (List.mem_of_mem_take q)))
  have e2 := filter_all15 (l := l.drop (k + 1)) (fun m q => ok_not_zero (hm m (List.mem_of_mem_drop q)))
  have e3 := filter_zeros (60 - l.length)
  have e4 : (!mgEq Mg.zero Mg.zero) = false := by rw [(mgEq_iff _ _).2 rfl]; rfl
  unfold lettersIn without15 at *
  rw [List.filter_append, List.filter_cons, e4, List.filter_append, e1, e2, e3, List.append_nil]
  simp
end Go.Proofs.Ytgabhnhfomekfaa

