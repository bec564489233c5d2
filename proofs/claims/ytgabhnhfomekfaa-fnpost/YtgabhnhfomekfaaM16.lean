/-
  Contracts and plain laws, one chapter behind the other.
-/
import Derived.Laws.StructEq
import Derived.BigQuiet
import Derived.Test.YtgabhnhfomekfaaM07
import Derived.Test.YtgabhnhfomekfaaM10
import Derived.Test.YtgabhnhfomekfaaM14
namespace Go.Proofs.Ytgabhnhfomekfaa
set_option linter.unusedVariables false

set_option maxRecDepth 100000


structure Mg where
  kd : Int
  ds : Int
  vw : Int
  e : Ent
  s : Int
  rc : Int
  rv : Int

def Mg.zero : Mg := ⟨0, 0, 0, Ent.zero, 0, 0, 0⟩

/-- A letter's fifteen cells. -/
def mgC (m : Mg) : List Value := [.int .i64 m.kd, .int .i64 m.ds, .int .i64 m.vw, .int .i64 m.e.sq, .int .i64 m.e.cl, .int .i64 m.e.tg, .int .i64 m.e.o.k, .string m.e.o.nm, .string m.e.o.ot, .int .i64 m.e.o.at_, .int .i64 m.e.o.va, .int .i64 m.e.o.ep, .int .i64 m.s, .int .i64 m.rc, .int .i64 m.rv]

theorem mgC_len (m : Mg) : (mgC m).length = 15 := rfl

def asked (e : Ent) : Bool := decide (e.sq = 0) && inB e.tg 1 1000 && inB e.cl 0 3 && opOk e.o

def repEq (c v c1 v1 : Int) : Bool := decide (c = c1) && decide (v = v1)

def kindOk (m : Mg) : Bool :=
  if m.kd = 1 then asked m.e && decide (m.s = 0) && repEq m.rc m.rv 0 0
  else if m.kd = 2 then entOk m.e && decide (m.s = 0) && repEq m.rc m.rv 0 0
  else if m.kd = 3 then entEq m.e Ent.zero && inB m.s 1 120 && repEq m.rc m.rv 0 0
  else if m.kd = 4 then asked m.e && decide (m.ds = m.e.cl) && inB m.s 0 120 && repOk m.rc m.rv
  else false

def msgOk (m : Mg) : Bool := inB m.ds 0 3 && inB m.vw 1 1000 && kindOk m

/-- What its kind tells. -/
def told (m : Mg) : Mg :=
  if m.kd = 1 ∨ m.kd = 2 then ⟨m.kd, m.ds, m.vw, m.e, 0, 0, 0⟩
  else if m.kd = 3 then ⟨m.kd, m.ds, m.vw, Ent.zero, m.s, 0, 0⟩
  else if m.kd = 4 then m
  else ⟨m.kd, m.ds, m.vw, Ent.zero, 0, 0, 0⟩

def mgEq (x y : Mg) : Bool := decide (x.kd = y.kd) && decide (x.ds = y.ds) && decide (x.vw = y.vw) && entEq x.e y.e && decide (x.s = y.s) && repEq x.rc x.rv y.rc y.rv

theorem mgEq_iff (x y : Mg) : mgEq x y = true ↔ x = y := by
  cases x; cases y
  simp [mgEq, repEq, entEq_iff, and_assoc]

def kindBy (m : Mg) : Bool :=
  if m.kd = 1 then inB m.ds 0 3 && asked m.e
  else if m.kd = 2 then inB m.ds 0 3 && entOk m.e
  else if m.kd = 3 then inB m.ds 0 3 && inB m.s 1 120
  else if m.kd = 4 then decide (m.ds = m.e.cl) && asked m.e && inB m.s 0 120 && repOk m.rc m.rv
  else false

def msgBy (m : Mg) : Bool := mgEq m (told m) && inB m.vw 1 1000 && kindBy m

theorem msgOk_by (m : Mg) : msgOk m = msgBy m := by
  obtain ⟨kd, ds, vw, e, s, rc, rv⟩ := m
  by_cases h1 : kd = 1
  · subst h1
    simp only [msgOk, msgBy, kindOk, kindBy, told, mgEq, repEq, if_true, true_or, (entEq_iff e e).2 rfl]
    simp only [decide_true, Bool.true_and]
    cases inB ds 0 3 <;> cases inB vw 1 1000 <;> cases asked e <;> simp
  by_cases h2 : kd = 2
  · subst h2
    simp only [msgOk, msgBy, kindOk, kindBy, told, mgEq, repEq, if_true, or_true, (entEq_iff e e).2 rfl]
    simp only [decide_true, Bool.true_and]
    cases inB ds 0 3 <;> cases inB vw 1 1000 <;> cases entOk e <;> simp
  by_cases h3 : kd = 3
  · subst h3
    simp only [msgOk, msgBy, kindOk, kindBy, told, mgEq, repEq]
    cases inB ds 0 3 <;> cases inB vw 1 1000 <;> cases inB s 1 120 <;> simp
  by_cases h4 : kd = 4
  · subst h4
    simp only [msgOk, msgBy, kindOk, kindBy, told, mgEq, repEq]
    by_cases ht : ds = e.cl
    · subst ht
      have hc : asked e = true → inB e.cl 0 3 = true := by
        intro h
        simp only [asked, Bool.and_eq_true] at h
        exact h.1.2
      cases ha : asked e
      · simp
      · rw [hc ha]
        cases inB vw 1 1000 <;> simp [(entEq_iff e e).2 rfl]
    · simp [ht]
  · simp [msgOk, msgBy, kindOk, kindBy, h1, h2, h3, h4]
end Go.Proofs.Ytgabhnhfomekfaa

namespace Go.Proofs.Ytgabhnhfomekfaa
open Go.RowKit

set_option linter.unusedVariables false

set_option maxRecDepth 100000


theorem text_iff (a b : ByteArray) : a.toList = b.toList ↔ a = b := by
  constructor
  · intro h
    apply ext_list
    rwa [ByteArray.toList_eq, ByteArray.toList_eq] at h
  · rintro rfl; rfl

theorem ent_equal (sq cl tg k : Int) (nm ot : ByteArray) (at_ va ep : Int) (sq1 cl1 tg1 k1 : Int) (nm1 ot1 : ByteArray) (at_1 va1 ep1 : Int) (w : World) : (Op.equalIn 10000 34 (.agg #[.int .i64 sq, .int .i64 cl, .int .i64 tg, .int .i64 k, .string nm, .string ot, .int .i64 at_, .int .i64 va, .int .i64 ep]) (.agg #[.int .i64 sq1, .int .i64 cl1, .int .i64 tg1, .int .i64 k1, .string nm1, .string ot1, .int .i64 at_1, .int .i64 va1, .int .i64 ep1])).run Try.prog w = .ok (entEq ⟨sq, cl, tg, ⟨k, nm, ot, at_, va, ep⟩⟩ ⟨sq1, cl1, tg1, ⟨k1, nm1, ot1, at_1, va1, ep1⟩⟩) w := by
  go_simp
  simp only [entEq, oqEq, text_iff]
  repeat' split
  all_goals simp [*]
end Go.Proofs.Ytgabhnhfomekfaa

