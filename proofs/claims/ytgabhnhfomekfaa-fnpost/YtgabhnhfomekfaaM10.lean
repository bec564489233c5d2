/-
  Contracts and plain laws, one chapter behind the other.
-/
import Derived.Laws.MakeOwn
import Derived.Handy
import Derived.Laws.IdiomStrings
import Derived.Laws.OwnMore
import Derived.OwnWalk
import Derived.Test.YtgabhnhfomekfaaM03
import Derived.Test.YtgabhnhfomekfaaM05
import Derived.Test.YtgabhnhfomekfaaM07
import Derived.Test.YtgabhnhfomekfaaM08
import Derived.Test.YtgabhnhfomekfaaM09
namespace Go.Proofs.Ytgabhnhfomekfaa
set_option linter.unusedVariables false

set_option maxRecDepth 100000


structure Ent where
  sq : Int
  cl : Int
  tg : Int
  o : Oq

def Ent.zero : Ent := ⟨0, 0, 0, Oq.zero⟩

/-- An entry's nine cells. -/
def entC (e : Ent) : List Value := [.int .i64 e.sq, .int .i64 e.cl, .int .i64 e.tg, .int .i64 e.o.k, .string e.o.nm, .string e.o.ot, .int .i64 e.o.at_, .int .i64 e.o.va, .int .i64 e.o.ep]

theorem entC_len (e : Ent) : (entC e).length = 9 := rfl

def entOk (e : Ent) : Bool := inB e.sq 1 1000 && inB e.tg 1 1000 && inB e.cl 0 3 && changes e.o

def oqEq (x y : Oq) : Bool := decide (x.k = y.k) && decide (x.nm = y.nm) && decide (x.ot = y.ot) && decide (x.at_ = y.at_) && decide (x.va = y.va) && decide (x.ep = y.ep)

def entEq (x y : Ent) : Bool := decide (x.sq = y.sq) && decide (x.cl = y.cl) && decide (x.tg = y.tg) && oqEq x.o y.o

theorem oqEq_iff (x y : Oq) : oqEq x y = true ↔ x = y := by
  cases x; cases y
  simp [oqEq, and_assoc]

theorem entEq_iff (x y : Ent) : entEq x y = true ↔ x = y := by
  cases x; cases y
  simp [entEq, oqEq_iff, and_assoc]
end Go.Proofs.Ytgabhnhfomekfaa

namespace Go.Proofs.Ytgabhnhfomekfaa
open Go.RowKit

set_option linter.unusedVariables false

set_option maxRecDepth 100000


set_option maxHeartbeats 1600000 in
theorem specEntryOk_any (sq cl tg k : Int) (nm ot : ByteArray) (at_ va ep : Int) (w : World) (hn : nm.size ≤ maxLen) (ho : ot.size ≤ maxLen) :
    Calls Try.prog 37 #[.agg #[.int .i64 sq, .int .i64 cl, .int .i64 tg, .int .i64 k, .string nm, .string ot, .int .i64 at_, .int .i64 va, .int .i64 ep]] w fun e w' => e = .returned (.bool (entOk ⟨sq, cl, tg, ⟨k, nm, ot, at_, va, ep⟩⟩)) ∧ Below w.heap.size w w' := by
  obtain ⟨W0, hW0, k0, d0, z0⟩ := box1 w #[.int .i64 sq, .int .i64 cl, .int .i64 tg, .int .i64 k, .string nm, .string ot, .int .i64 at_, .int .i64 va, .int .i64 ep] 34
  have HW0 : Hid (W0 = _) := hW0
  have p0 := at_cell k0 0
  have p1 := at_cell k0 1
  have p2 := at_cell k0 2
  have p3 := at_cell k0 3
  have p4 := at_cell k0 4
  have p5 := at_cell k0 5
  have p6 := at_cell k0 6
  have p7 := at_cell k0 7
  have p8 := at_cell k0 8
  have HB : Hid (entOk ⟨sq, cl, tg, ⟨k, nm, ot, at_, va, ep⟩⟩ = ((decide (1 ≤ sq) && decide (sq ≤ 1000)) && (decide (1 ≤ tg) && decide (tg ≤ 1000)) && (decide (0 ≤ cl) && decide (cl ≤ 3)) && changes ⟨k, nm, ot, at_, va, ep⟩)) := rfl
  clear hW0 z0 k0
  go_enter Try.func37, Try.ntmps37
  go_wp2_with fail
  rw [← HW0.out]
  clear HW0
  refine (l1In_any sq 1 1000 _).mono ?_
  rintro e w' ⟨rfl, rfl⟩
  generalize (decide (1 ≤ sq) && decide (sq ≤ 1000)) = c0 at *
  cases c0
  · go_wp2_with fail
    go_ret
    exact ⟨ret_bool (by rw [HB.out]; rfl), d0⟩
  go_wp2_with fail
  refine (l1In_any tg 1 1000 _).mono ?_
  rintro e w' ⟨rfl, rfl⟩
  generalize (decide (1 ≤ tg) && decide (tg ≤ 1000)) = c1 at *
  cases c1
  · go_wp2_with fail
    go_ret
    exact ⟨ret_bool (by rw [HB.out]; rfl), d0⟩
  go_wp2_with fail
  refine (l1In_any cl 0 3 _).mono ?_
  rintro e w' ⟨rfl, rfl⟩
  generalize (decide (0 ≤ cl) && decide (cl ≤ 3)) = c2 at *
  cases c2
  · go_wp2_with fail
    go_ret
    exact ⟨ret_bool (by rw [HB.out]; rfl), d0⟩
  go_wp2_with fail
  refine (specChanges_any k nm ot at_ va ep _ hn ho).mono ?_
  rintro e w1 ⟨rfl, b1⟩
  replace d0 := bw_call d0 b1
  generalize changes ⟨k, nm, ot, at_, va, ep⟩ = c3 at *
  go_wp2_with fail
  go_ret
  exact ⟨ret_bool (by rw [HB.out]; rfl), d0⟩

/-- Numbers of 64 bits, texts that can be. -/
def FitEnt (e : Ent) : Prop := (e.o.nm.size ≤ maxLen ∧ e.o.ot.size ≤ maxLen) ∧ I64 e.sq ∧ I64 e.cl ∧ I64 e.tg ∧ I64 e.o.k ∧ I64 e.o.at_ ∧ I64 e.o.va ∧ I64 e.o.ep

def FitLog (l : List Ent) : Prop := ∀ e ∈ l, FitEnt e
end Go.Proofs.Ytgabhnhfomekfaa

namespace Go.Proofs.Ytgabhnhfomekfaa
open Go.RowKit

set_option linter.unusedVariables false

set_option maxRecDepth 100000

theorem pick_cell {w w1 : World} {c : Nat} {cs : Array Value} {t : TypeId} (u : Upto c (w.alloc (.cells cs t)) w1) (hc : c < w.heap.size) (j : Nat) : w1.cell? ⟨w.heap.size, j, none⟩ = cs[j]? := by
  rw [u.cell (p := ⟨w.heap.size, j, none⟩) (by simp [go_sem]) (by simp; omega)]
  exact World.cell?_alloc_mark w cs t (0, 0) j

theorem name_any (c : Nat) (x : Option Addr) (len cap : Nat) (w : World) (hc : Cur w c x len cap) :
    Calls Try.prog 60 #[.pointer (some ⟨c, 0, none⟩)] w fun e w' => ∃ s : ByteArray, e = .returned (.string s) ∧ s.size ≤ 5 ∧ Upto c w w' ∧ Cur w' c x len cap := by
  have hlt := hc.lt
  go_enter Try.func60, Try.ntmps60
  go_wp2_with fail
  refine (below_any c x len cap 7 _ (by omega) (hc.alloc _)).mono ?_
  rintro e w1 ⟨m0, rfl, hm0, u1, k1⟩
  obtain ⟨m, rfl⟩ := Int.eq_ofNat_of_zero_le hm0.1
  have hm1 : (m : Int) < 7 := hm0.2.1 (by omega)
  have u0 : Upto c w w1 := ((Upto.refl c w).alloc _).trans u1
  obtain ⟨s, hs, hsz⟩ : ∃ s : ByteArray, w1.cell? ⟨w.heap.size, m, none⟩ = some (.string s) ∧ s.size ≤ 5 := by
    rw [pick_cell u1 hlt m]
    have hm : m = 0 ∨ m = 1 ∨ m = 2 ∨ m = 3 ∨ m = 4 ∨ m = 5 ∨ m = 6 := by omega
    rcases hm with rfl | rfl | rfl | rfl | rfl | rfl | rfl <;> exact ⟨_, rfl, by decide⟩
  clear u1 hm0
  go_wp2_with fail
  go_ret
  exact ⟨s, rfl, hsz, u0, k1⟩

theorem big_any (x : Option Addr) (len cap : Nat) (w : World) (h : len ≤ maxLen) :
    Calls Try.prog 4 #[.slice x len cap] w fun e w' => e = .returned (.bool (decide (4096 < (len : Int)))) ∧ w' = w := by
  unfold maxLen at h
  go_enter Try.func4, Try.ntmps4
  go_wp2
  go_ret
  exact ⟨rfl, rfl⟩
end Go.Proofs.Ytgabhnhfomekfaa

