/-
  Contracts and plain laws, one chapter behind the other.
-/
import Derived.Test.YtgabhnhfomekfaaM01
namespace Go.Proofs.Ytgabhnhfomekfaa
open Nums

set_option linter.unusedVariables false

set_option maxRecDepth 100000


/-- What of a kind lies within which limits. -/
def lmAt (k : Int) : Int := if kAt k = true then 255 else 0

def lmLo (k : Int) : Int := if kSize k = true then 1 else 0

def lmHi (k : Int) : Int := if kSize k = true then 16 else if k = 2 then 999 else 0

def lmEp (k : Int) : Int := if kEpoch k = true then 1000 else 0

def otOk (ot : ByteArray) (h : Bool) : Bool := if h = true then nameB ot.data.toList else decide (ot.size = 0)

def opBy (o : Oq) : Bool :=
  inB o.k 1 9 && nameB o.nm.data.toList && otOk o.ot (kOther o.k) && inB o.at_ 0 (lmAt o.k) && inB o.va (lmLo o.k) (lmHi o.k) && inB o.ep 0 (lmEp o.k)

theorem inB_zero (x : Int) : inB x 0 0 = decide (x = 0) := by
  rw [Bool.eq_iff_iff, inB_iff, decide_eq_true_eq]; omega

theorem inB_or (b : Bool) (x hi : Int) (h : 0 ≤ hi) : ((b || decide (x = 0)) && inB x 0 hi) = inB x 0 (if b = true then hi else 0) := by
  cases b
  · rw [Bool.eq_iff_iff]
    simp only [Bool.false_or, Bool.and_eq_true, inB_iff, decide_eq_true_eq, Bool.false_eq_true, if_false]
    omega
  · simp

theorem ot_by (ot : ByteArray) (b : Bool) : ((b == decide (ot.size ≠ 0)) && (!b || nameB ot.data.toList)) = otOk ot b := by
  cases b
  · simp [otOk]
  · unfold otOk
    rw [if_pos rfl]
    cases h : nameB ot.data.toList
    · simp
    · have := nameB_size ot h
      have e : decide (ot.size ≠ 0) = true := by simp only [decide_eq_true_eq]; omega
      rw [e]
      rfl

theorem val_by (k va : Int) : valOk k va = inB va (lmLo k) (lmHi k) := by
  unfold valOk lmLo lmHi
  split
  · rfl
  · split
    · rfl
    · exact (inB_zero va).symm

theorem opOk_by (o : Oq) : opOk o = opBy o := by
  have h1 := ot_by o.ot (kOther o.k)
  have h2 := inB_or (kAt o.k) o.at_ 255 (by omega)
  have h3 := inB_or (kEpoch o.k) o.ep 1000 (by omega)
  have h4 := val_by o.k o.va
  have e : opOk o = (nameB o.nm.data.toList && inB o.k 1 9 && ((kOther o.k == decide (o.ot.size ≠ 0)) && (!kOther o.k || nameB o.ot.data.toList)) && ((kAt o.k || decide (o.at_ = 0)) && inB o.at_ 0 255) && ((kEpoch o.k || decide (o.ep = 0)) && inB o.ep 0 1000) && valOk o.k o.va) := by
    unfold opOk
    simp only [Bool.and_assoc]
  rw [e, h1, h2, h3, h4]
  unfold opBy lmAt lmEp
  generalize nameB o.nm.data.toList = a
  generalize inB o.k 1 9 = b
  generalize otOk o.ot (kOther o.k) = c
  generalize inB o.at_ 0 _ = d
  generalize inB o.ep 0 _ = e
  generalize inB o.va _ _ = f
  cases a <;> cases b <;> cases c <;> cases d <;> cases e <;> cases f <;> rfl
end Go.Proofs.Ytgabhnhfomekfaa

