/-
  Contracts and plain laws, one chapter behind the other.
-/
import Derived.Deep.WholeRow
import Derived.Laws.CopyOwn
import Derived.BigQuiet
import Derived.Deep.DeepCutAuto
import Derived.ChangeKeysEq
import Derived.Laws.StructEq
import Derived.Test.YtkjdfgjmkomcgaaM01
import Derived.Test.YtkjdfgjmkomcgaaM02
namespace Go.Proofs.Ytkjdfgjmkomcgaa
open Go.RowKit

set_option linter.unusedVariables false

set_option maxRecDepth 100000


theorem wpList_load_arr {P : Program} {w : World} {ops : Array Oper} {rest : List Oper} {o : Oper} {a : Act} {Q : Exit → Act → World → Prop} (hgd : o.guard = none) (p : Operand) (t : TypeId) (ho : o.op = .load t p)
    (g : Nat) (hp : a.eval p = .pointer (some ⟨g, 0, none⟩)) (cs : Array Value) (ty : TypeId) (fr : Nat × Nat) (hg : w.heap[g]? = some (.cells cs ty fr)) (d : TypeDesc) (hu : P.underlying t = some d)
    (hd : (match d with | .struct _ | .array _ _ => true | _ => false) = true) (hi : (P.info? t).map (·.size) = some cs.size)
    (h : wpList P ops Q rest (a.put o.dst (.agg cs)) w) : wpList P ops Q (o :: rest) a w :=
  wpList_plain hgd fun K hK => by
    have hKK := hK _ _ h
    have hr := run_loadVar_row (P := P) w g ty t cs fr d hg hu hd hi
    unfold Oper.wp execOp
    simp only [ho, hp, Instr.loadAt, Instr.sureAddr, Sem.run_bind, Sem.run_pure, Result.andThen_ok, hr]
    exact hKK

theorem wpList_store_arr {P : Program} {w : World} {ops : Array Oper} {rest : List Oper} {o : Oper} {a : Act} {Q : Exit → Act → World → Prop} (hgd : o.guard = none) (p x : Operand) (t : TypeId) (ho : o.op = .store t p x)
    (g : Nat) (hp : a.eval p = .pointer (some ⟨g, 0, none⟩)) (cs : Array Value) (hx : a.eval x = .agg cs) (old : Array Value) (ty : TypeId) (hg : w.heap[g]? = some (.cells old ty (0, 0)))
    (hi : (P.info? t).map (·.size) = some cs.size) (hs : old.size = cs.size) (h1 : cs.all (·.oneCell') = true)
    (h : wpList P ops Q rest (a.put o.dst undef) (w.setRow g cs)) : wpList P ops Q (o :: rest) a w :=
  wpList_plain hgd fun K hK => by
    have hKK := hK _ _ h
    have hr := run_storeVar_row (P := P) w g ty t old cs hg hi hs h1
    unfold Oper.wp execOp
    simp only [ho, hp, hx, Instr.storeAt, Instr.sureAddr, Sem.run_bind, Sem.run_pure, Result.andThen_ok, hr]
    exact hKK

theorem setRow_row {w : World} {g : Nat} {old cs : Array Value} {ty : TypeId} {fr : Nat × Nat} (hg : w.heap[g]? = some (.cells old ty fr)) : (w.setRow g cs).heap[g]? = some (.cells cs ty fr) := by
  simp only [World.setRow, Array.getElem?_modify, hg, if_true]
  rfl

theorem setRow_below {w : World} {g B : Nat} {cs : Array Value} (h : B ≤ g) : Below B w (w.setRow g cs) := by
  refine ⟨rfl, rfl, rfl, by simp [World.setRow], fun k hk => ?_⟩
  simp only [World.setRow, Array.getElem?_modify]
  rw [if_neg (by omega)]

theorem one_cells (xs : List Int) (c : Array Value) (h : c.toList = xs.map (Value.int .i64)) : c.all (·.oneCell') = true := by
  rw [Array.all_eq_true_iff_forall_mem]
  intro u hu
  have : u ∈ c.toList := by simpa using hu
  rw [h] at this
  obtain ⟨x, _, rfl⟩ := List.mem_map.1 this
  rfl
end Go.Proofs.Ytkjdfgjmkomcgaa

namespace Go.Proofs.Ytkjdfgjmkomcgaa
open Go.RowKit

set_option linter.unusedVariables false


def zeros16 : Array Value := #[.int .i64 0, .int .i64 0, .int .i64 0, .int .i64 0, .int .i64 0, .int .i64 0, .int .i64 0, .int .i64 0, .int .i64 0, .int .i64 0, .int .i64 0, .int .i64 0, .int .i64 0, .int .i64 0, .int .i64 0, .int .i64 0]

def blkL (xs : List Int) : List Int := xs.take 16 ++ List.replicate (16 - xs.length) 0

def blk (xs : List Int) : Array Value := ((blkL xs).map (Value.int .i64)).toArray

theorem blkL_len (xs : List Int) : (blkL xs).length = 16 := by simp [blkL]; omega

theorem blk_size (xs : List Int) : (blk xs).size = 16 := by simp [blk, blkL_len]

theorem blk_splice (xs : List Int) : splice (zeros16.toList) 0 ((xs.take 16).map (Value.int .i64)) = (blkL xs).map (Value.int .i64) := by
  have hz : zeros16.toList = (List.replicate 16 (0 : Int)).map (Value.int .i64) := rfl
  rw [hz]
  simp only [splice, List.take_zero, List.nil_append, Nat.zero_add, List.length_map, blkL, List.map_append]
  congr 1
  rw [← List.map_drop, List.drop_replicate, List.length_take]
  congr 2
  omega

def BlkSrc (o : Option Addr) (w : World) (xs : List Int) : Prop := ∀ j x, xs[j]? = some x → ∃ a, o = some a ∧ w.cell? (a.add j) = some (.int .i64 x) ∧ a.block < w.heap.size

theorem blk_pos {o : Option Addr} {w W : World} {xs : List Int} {cs : List Value} {p : Option Addr} (hcs : cs = (xs.take 16).map (Value.int .i64)) (h : BlkSrc o w xs) (d : Below w.heap.size w W) : 0 < cs.length → p = p ∧ ∃ ad, o = some ad ∧ ∀ j v, cs[j]? = some v → W.cell? (ad.add j) = some v := fun hp => by
  refine ⟨rfl, ?_⟩
  have hx : 0 < xs.length := by rw [hcs, List.length_map, List.length_take] at hp; omega
  obtain ⟨a, ha, -, hlt⟩ := h 0 xs[0] (by simp [hx])
  refine ⟨a, ha, fun j v hj => ?_⟩
  rw [hcs, List.getElem?_map] at hj
  cases hxj : (xs.take 16)[j]? with
  | none => rw [hxj] at hj; cases hj
  | some x =>
    rw [hxj] at hj
    simp only [Option.map_some, Option.some.injEq] at hj
    subst hj
    have hxx : xs[j]? = some x := by
      rw [List.getElem?_take] at hxj
      split at hxj
      · exact hxj
      · cases hxj
    obtain ⟨a', ha', hc, hl⟩ := h j x hxx
    rw [ha] at ha'
    cases ha'
    exact (d.cell (p := a.add j) (by unfold Addr.add; split <;> exact hl)).trans hc

theorem info16 : (Try.prog.info? 150).map (·.size) = some 16 := by kernel_rfl

set_option maxRecDepth 100000 in
set_option maxHeartbeats 3200000 in
theorem blockOf_any (o : Option Addr) (n cap : Nat) (xs : List Int) (w : World) (hn : xs.length = n) (hm : n ≤ maxLen) (hsrc : BlkSrc o w xs) :
    Calls Try.prog 118 #[.slice o n cap] w fun e w' => e = .returned (.agg (blk xs)) ∧ Below w.heap.size w w' := by
  subst hn
  obtain ⟨WA, hWA, kA0, kB0, d0, z0⟩ := box2 w #[.int .i64 0, .int .i64 0, .int .i64 0, .int .i64 0, .int .i64 0, .int .i64 0, .int .i64 0, .int .i64 0, .int .i64 0, .int .i64 0, .int .i64 0, .int .i64 0, .int .i64 0, .int .i64 0, .int .i64 0, .int .i64 0] #[.int .i64 0, .int .i64 0, .int .i64 0, .int .i64 0, .int .i64 0, .int .i64 0, .int .i64 0, .int .i64 0, .int .i64 0, .int .i64 0, .int .i64 0, .int .i64 0, .int .i64 0, .int .i64 0, .int .i64 0, .int .i64 0] 150 150
  have HKB : Hid (((w.alloc (.cells #[.int .i64 0, .int .i64 0, .int .i64 0, .int .i64 0, .int .i64 0, .int .i64 0, .int .i64 0, .int .i64 0, .int .i64 0, .int .i64 0, .int .i64 0, .int .i64 0, .int .i64 0, .int .i64 0, .int .i64 0, .int .i64 0] 150)).alloc (.cells #[.int .i64 0, .int .i64 0, .int .i64 0, .int .i64 0, .int .i64 0, .int .i64 0, .int .i64 0, .int .i64 0, .int .i64 0, .int .i64 0, .int .i64 0, .int .i64 0, .int .i64 0, .int .i64 0, .int .i64 0, .int .i64 0] 150)).heap[w.heap.size + 1]? = some (.cells #[.int .i64 0, .int .i64 0, .int .i64 0, .int .i64 0, .int .i64 0, .int .i64 0, .int .i64 0, .int .i64 0, .int .i64 0, .int .i64 0, .int .i64 0, .int .i64 0, .int .i64 0, .int .i64 0, .int .i64 0, .int .i64 0] 150 (0, 0))) := by rw [Hid, ← hWA]; exact kB0
  have HI0 : Hid ((Try.prog.info? 150).map (·.size) = some (#[.int .i64 0, .int .i64 0, .int .i64 0, .int .i64 0, .int .i64 0, .int .i64 0, .int .i64 0, .int .i64 0, .int .i64 0, .int .i64 0, .int .i64 0, .int .i64 0, .int .i64 0, .int .i64 0, .int .i64 0, .int .i64 0] : Array Value).size) := info16
  have HO0 : Hid ((#[.int .i64 0, .int .i64 0, .int .i64 0, .int .i64 0, .int .i64 0, .int .i64 0, .int .i64 0, .int .i64 0, .int .i64 0, .int .i64 0, .int .i64 0, .int .i64 0, .int .i64 0, .int .i64 0, .int .i64 0, .int .i64 0] : Array Value).all (·.oneCell') = true) := one_cells (List.replicate 16 0) _ rfl
  subst hWA
  have k1 := setRow_row (cs := #[.int .i64 0, .int .i64 0, .int .i64 0, .int .i64 0, .int .i64 0, .int .i64 0, .int .i64 0, .int .i64 0, .int .i64 0, .int .i64 0, .int .i64 0, .int .i64 0, .int .i64 0, .int .i64 0, .int .i64 0, .int .i64 0]) kB0
  have k0 := ((setRow_below (w := (w.alloc (.cells #[.int .i64 0, .int .i64 0, .int .i64 0, .int .i64 0, .int .i64 0, .int .i64 0, .int .i64 0, .int .i64 0, .int .i64 0, .int .i64 0, .int .i64 0, .int .i64 0, .int .i64 0, .int .i64 0, .int .i64 0, .int .i64 0] 150)).alloc (.cells #[.int .i64 0, .int .i64 0, .int .i64 0, .int .i64 0, .int .i64 0, .int .i64 0, .int .i64 0, .int .i64 0, .int .i64 0, .int .i64 0, .int .i64 0, .int .i64 0, .int .i64 0, .int .i64 0, .int .i64 0, .int .i64 0] 150)) (B := w.heap.size + 1) (cs := #[.int .i64 0, .int .i64 0, .int .i64 0, .int .i64 0, .int .i64 0, .int .i64 0, .int .i64 0, .int .i64 0, .int .i64 0, .int .i64 0, .int .i64 0, .int .i64 0, .int .i64 0, .int .i64 0, .int .i64 0, .int .i64 0]) (Nat.le_refl _)).block w.heap.size (by omega)).trans kA0
  have d1 : Below w.heap.size w (((w.alloc (.cells #[.int .i64 0, .int .i64 0, .int .i64 0, .int .i64 0, .int .i64 0, .int .i64 0, .int .i64 0, .int .i64 0, .int .i64 0, .int .i64 0, .int .i64 0, .int .i64 0, .int .i64 0, .int .i64 0, .int .i64 0, .int .i64 0] 150)).alloc (.cells #[.int .i64 0, .int .i64 0, .int .i64 0, .int .i64 0, .int .i64 0, .int .i64 0, .int .i64 0, .int .i64 0, .int .i64 0, .int .i64 0, .int .i64 0, .int .i64 0, .int .i64 0, .int .i64 0, .int .i64 0, .int .i64 0] 150)).setRow (w.heap.size + 1) #[.int .i64 0, .int .i64 0, .int .i64 0, .int .i64 0, .int .i64 0, .int .i64 0, .int .i64 0, .int .i64 0, .int .i64 0, .int .i64 0, .int .i64 0, .int .i64 0, .int .i64 0, .int .i64 0, .int .i64 0, .int .i64 0]) := d0.trans (setRow_below (by omega))
  obtain ⟨cs, hcs⟩ : ∃ cs, cs = (xs.take 16).map (Value.int .i64) := ⟨_, rfl⟩
  have HCS : Hid (cs = (xs.take 16).map (Value.int .i64)) := hcs
  have HLN : Hid (cs.length = Nat.min xs.length 16) := by rw [Hid, hcs, List.length_map, List.length_take]; exact Nat.min_comm _ _
  have H1 : Hid (∀ v ∈ cs, v.oneCell' = true) := fun v hv => by rw [hcs] at hv; obtain ⟨x, _, rfl⟩ := List.mem_map.1 hv; rfl
  have HFIT : Hid (0 + cs.length ≤ (zeros16.toList).length) := by rw [Hid, HLN.out]; show 0 + min xs.length 16 ≤ 16; omega
  have K1 : Hid ((((w.alloc (.cells #[.int .i64 0, .int .i64 0, .int .i64 0, .int .i64 0, .int .i64 0, .int .i64 0, .int .i64 0, .int .i64 0, .int .i64 0, .int .i64 0, .int .i64 0, .int .i64 0, .int .i64 0, .int .i64 0, .int .i64 0, .int .i64 0] 150)).alloc (.cells #[.int .i64 0, .int .i64 0, .int .i64 0, .int .i64 0, .int .i64 0, .int .i64 0, .int .i64 0, .int .i64 0, .int .i64 0, .int .i64 0, .int .i64 0, .int .i64 0, .int .i64 0, .int .i64 0, .int .i64 0, .int .i64 0] 150)).setRow (w.heap.size + 1) #[.int .i64 0, .int .i64 0, .int .i64 0, .int .i64 0, .int .i64 0, .int .i64 0, .int .i64 0, .int .i64 0, .int .i64 0, .int .i64 0, .int .i64 0, .int .i64 0, .int .i64 0, .int .i64 0, .int .i64 0, .int .i64 0]).heap[w.heap.size + 1]? = some (.cells zeros16.toList.toArray 150 (0, 0))) := k1
  have K0 : Hid ((((w.alloc (.cells #[.int .i64 0, .int .i64 0, .int .i64 0, .int .i64 0, .int .i64 0, .int .i64 0, .int .i64 0, .int .i64 0, .int .i64 0, .int .i64 0, .int .i64 0, .int .i64 0, .int .i64 0, .int .i64 0, .int .i64 0, .int .i64 0] 150)).alloc (.cells #[.int .i64 0, .int .i64 0, .int .i64 0, .int .i64 0, .int .i64 0, .int .i64 0, .int .i64 0, .int .i64 0, .int .i64 0, .int .i64 0, .int .i64 0, .int .i64 0, .int .i64 0, .int .i64 0, .int .i64 0, .int .i64 0] 150)).setRow (w.heap.size + 1) #[.int .i64 0, .int .i64 0, .int .i64 0, .int .i64 0, .int .i64 0, .int .i64 0, .int .i64 0, .int .i64 0, .int .i64 0, .int .i64 0, .int .i64 0, .int .i64 0, .int .i64 0, .int .i64 0, .int .i64 0, .int .i64 0]).heap[w.heap.size]? = some (.cells zeros16 150 (0, 0)) ∧ Below w.heap.size w (((w.alloc (.cells #[.int .i64 0, .int .i64 0, .int .i64 0, .int .i64 0, .int .i64 0, .int .i64 0, .int .i64 0, .int .i64 0, .int .i64 0, .int .i64 0, .int .i64 0, .int .i64 0, .int .i64 0, .int .i64 0, .int .i64 0, .int .i64 0] 150)).alloc (.cells #[.int .i64 0, .int .i64 0, .int .i64 0, .int .i64 0, .int .i64 0, .int .i64 0, .int .i64 0, .int .i64 0, .int .i64 0, .int .i64 0, .int .i64 0, .int .i64 0, .int .i64 0, .int .i64 0, .int .i64 0, .int .i64 0] 150)).setRow (w.heap.size + 1) #[.int .i64 0, .int .i64 0, .int .i64 0, .int .i64 0, .int .i64 0, .int .i64 0, .int .i64 0, .int .i64 0, .int .i64 0, .int .i64 0, .int .i64 0, .int .i64 0, .int .i64 0, .int .i64 0, .int .i64 0, .int .i64 0])) := ⟨k0, d1⟩
  unfold maxLen at hm
  clear hcs kA0 kB0 k1 k0 d1 d0 z0
  have j0 : (Try.prog.info? 2).map (·.size) = some 1 := by kernel_rfl
  go_enter Try.func118, Try.ntmps118
  go_wp2_with (first | (with_reducible refine wpList_store_arr rfl _ _ 150 rfl (w.heap.size + 1) rfl #[.int .i64 0, .int .i64 0, .int .i64 0, .int .i64 0, .int .i64 0, .int .i64 0, .int .i64 0, .int .i64 0, .int .i64 0, .int .i64 0, .int .i64 0, .int .i64 0, .int .i64 0, .int .i64 0, .int .i64 0, .int .i64 0] rfl #[.int .i64 0, .int .i64 0, .int .i64 0, .int .i64 0, .int .i64 0, .int .i64 0, .int .i64 0, .int .i64 0, .int .i64 0, .int .i64 0, .int .i64 0, .int .i64 0, .int .i64 0, .int .i64 0, .int .i64 0, .int .i64 0] 150 HKB.out HI0.out rfl HO0.out ?_) | (with_reducible refine wpList_copy_splice rfl _ _ 24 24 rfl 2 Try.underlying24 j0 _ _ _ _ _ _ rfl rfl (w.heap.size + 1) 0 zeros16.toList 150 K1.out cs HLN.out (blk_pos HCS.out hsrc K0.out.2) HFIT.out H1.out (w.heap.size + 1) _ (Below.refl _ _) (Nat.le_refl _) ?_))
  intro w2 HG2 hB2
  have hrow : w2.heap[w.heap.size + 1]? = some (.cells (blk xs) 150 (0, 0)) := by
    have h := HG2.out
    rw [HCS.out, blk_splice] at h
    exact h
  have hk0 := (hB2.block w.heap.size (by omega)).trans K0.out.1
  have hb2 := K0.out.2.trans (hB2.mono (by omega))
  have HI : Hid ((Try.prog.info? 150).map (·.size) = some (blk xs).size) := by rw [Hid, blk_size]; exact info16
  have HZ : Hid (zeros16.size = (blk xs).size) := by rw [Hid, blk_size]; rfl
  have H1' : Hid ((blk xs).all (·.oneCell') = true) := one_cells (blkL xs) _ rfl
  have HROW : Hid _ := hrow
  have HK0 : Hid _ := hk0
  have hbS : Below w.heap.size w (w2.setRow w.heap.size (blk xs)) := hb2.trans (setRow_below (Nat.le_refl _))
  have hrow' := setRow_row (cs := blk xs) hk0
  have HLD : Hid _ := run_loadVar_row (P := Try.prog) _ w.heap.size 150 150 (blk xs) (0, 0) _ hrow' Try.underlying150 rfl HI.out
  clear hrow hk0 hrow' HG2 hB2 hb2
  go_wp2_with (first | (with_reducible refine wpList_load_arr rfl _ 150 rfl (w.heap.size + 1) rfl (blk xs) 150 (0, 0) HROW.out _ Try.underlying150 rfl HI.out ?_) | (with_reducible refine wpList_store_arr rfl _ _ 150 rfl w.heap.size rfl (blk xs) rfl zeros16 150 HK0.out HI.out HZ.out H1'.out ?_))
  refine bodyPost_ret (v := .agg (blk xs)) ?_ rfl ⟨rfl, hbS⟩
  simp [results, Try.results118, asAddr, Act.put, HLD.out]
end Go.Proofs.Ytkjdfgjmkomcgaa

namespace Go.Proofs.Ytkjdfgjmkomcgaa
open Go.RowKit

set_option linter.unusedVariables false


theorem eqItems_ints (d : Nat) (xs ys : List Int) (w : World) : ∀ is : List Nat, (∀ i ∈ is, i < xs.length ∧ i < ys.length) →
    (Op.eqItems (d + 1) 2 1 (xs.map (Value.int .i64)).toArray (ys.map (Value.int .i64)).toArray is).run Try.prog w = .ok (is.all fun i => xs[i]?.getD 0 == ys[i]?.getD 0) w
  | [], _ => by simp [Op.eqItems]
  | i :: is, h => by
    have he : Try.prog.plainKey 2 = true := by kernel_rfl
    obtain ⟨h1, h2⟩ := h i (by simp)
    have p1 := run_part_plain w he (xs := (xs.map (Value.int .i64)).toArray) (off := i * 1) (v := .int .i64 xs[i]) (by simp [h1])
    have p2 := run_part_plain w he (xs := (ys.map (Value.int .i64)).toArray) (off := i * 1) (v := .int .i64 ys[i]) (by simp [h2])
    have p3 := run_equalIn_int w d 2 .i64 .i64 xs[i] ys[i] Try.underlying2
    have ih := eqItems_ints d xs ys w is (fun j hj => h j (by simp [hj]))
    simp only [Op.eqItems, Sem.run_bind, p1, p2, p3, Result.andThen_ok]
    cases hb : (xs[i] == ys[i])
    · simp [h1, h2, hb]
    · rw [List.all_cons, show (xs[i]?.getD 0 == ys[i]?.getD 0) = true by simp only [h1, h2, List.getElem?_eq_getElem, Option.getD_some]; exact hb, Bool.true_and]
      simpa using ih

theorem all_at (xs ys : List Int) (n : Nat) (h1 : xs.length = n) (h2 : ys.length = n) : ((List.range n).all fun i => xs[i]?.getD 0 == ys[i]?.getD 0) = decide (xs = ys) := by
  by_cases h : xs = ys
  · subst h; simp
  · rw [decide_eq_false h, List.all_eq_false]
    have : ∃ i, i < n ∧ xs[i]? ≠ ys[i]? := Classical.byContradiction fun hc => by
      refine h (List.ext_getElem? fun i => ?_)
      by_cases hi : i < n
      · exact Classical.byContradiction fun hh => hc ⟨i, hi, hh⟩
      · rw [List.getElem?_eq_none (by omega), List.getElem?_eq_none (by omega)]
    obtain ⟨i, hi, hne⟩ := this
    refine ⟨i, List.mem_range.2 hi, ?_⟩
    rw [List.getElem?_eq_getElem (by omega), List.getElem?_eq_getElem (by omega)] at hne ⊢
    simpa using hne

theorem blk_equal (xs ys : List Int) (w : World) : (Op.equalIn 10000 150 (.agg (blk xs)) (.agg (blk ys))).run Try.prog w = .ok (decide (blkL xs = blkL ys)) w := by
  obtain ⟨i, hi⟩ : ∃ i, Try.prog.info? 2 = some i := Option.isSome_iff_exists.1 (by kernel_rfl)
  have hc : Try.prog.cellsOf 2 = 1 := by kernel_rfl
  rw [show (10000 : Nat) = 9998 + 1 + 1 from rfl, run_equalIn_array w (9998 + 1) (blk xs) (blk ys) Try.underlying150 hi, hc]
  rw [← all_at (blkL xs) (blkL ys) 16 (blkL_len xs) (blkL_len ys)]
  exact eqItems_ints 9998 (blkL xs) (blkL ys) w (List.range 16) (fun j hj => by rw [blkL_len, blkL_len]; exact ⟨List.mem_range.1 hj, List.mem_range.1 hj⟩)

theorem blk_more {xs ys : List Int} (k : Nat) (hl : xs.length = ys.length) (ht : xs.take k = ys.take k) (h : blkL (xs.drop k) = blkL (ys.drop k)) : xs.take (k + 16) = ys.take (k + 16) := by
  have e : (xs.drop k).take 16 = (ys.drop k).take 16 := by
    unfold blkL at h
    rw [List.length_drop, List.length_drop, hl] at h
    exact List.append_cancel_right h
  rw [List.take_add, List.take_add, ht, e]

theorem blk_cut {w W : World} {o : Option Addr} {xs : List Int} {g off : Nat} (k : Nat) (ho : o = some ⟨g, off, none⟩) (hd : Below w.heap.size w W) (hc : ∀ j u, (xs.map (Value.int .i64))[j]? = some u → ∃ g off, o = some ⟨g, off, none⟩ ∧ g < w.heap.size ∧ w.cell? ⟨g, off + j, none⟩ = some u) : BlkSrc (some ⟨g, off + k, none⟩) W (xs.drop k) := fun j x hj => by
  rw [List.getElem?_drop] at hj
  obtain ⟨g', off', e, hl, hx⟩ := hc (k + j) (.int .i64 x) (by rw [List.getElem?_map, hj]; rfl)
  rw [ho] at e
  cases e
  refine ⟨_, rfl, ?_, Nat.lt_of_lt_of_le hl hd.size⟩
  have e2 : (⟨g, off + k, none⟩ : Addr).add j = ⟨g, off + (k + j), none⟩ := by unfold Addr.add; split <;> simp_all [Nat.add_assoc]
  rw [e2]
  exact (hd.cell (p := ⟨g, off + (k + j), none⟩) hl).trans hx

set_option maxRecDepth 100000 in
set_option maxHeartbeats 3200000 in
theorem sameValues_any (v1 v2 : Value) (xs ys : List Int) (w : World) (hx : xs.length ≤ 1048576) (hy : ys.length ≤ 1048576) (h1 : Reads w.heap.size w v1 (xs.map (Value.int .i64))) (h2 : Reads w.heap.size w v2 (ys.map (Value.int .i64))) :
    Calls Try.prog 94 #[v1, v2] w fun e w' => e = .returned (.bool (decide (xs = ys))) ∧ Below w.heap.size w w' := by
  obtain ⟨o1, cap1, rfl, m1, c1, r1⟩ := h1
  obtain ⟨o2, cap2, rfl, m2, c2, r2⟩ := h2
  simp only [List.length_map] at m1 m2 c1 c2 r1 r2 ⊢
  by_cases hlen : xs.length = ys.length
  · rw [← hlen]
    have C1 : Hid (∀ j u, (xs.map (Value.int .i64))[j]? = some u → ∃ g off, o1 = some ⟨g, off, none⟩ ∧ g < w.heap.size ∧ w.cell? ⟨g, off + j, none⟩ = some u) := c1
    have C2 : Hid (∀ j u, (ys.map (Value.int .i64))[j]? = some u → ∃ g off, o2 = some ⟨g, off, none⟩ ∧ g < w.heap.size ∧ w.cell? ⟨g, off + j, none⟩ = some u) := c2
    have HL : Hid (xs.length = ys.length) := hlen
    rw [← hlen] at r2
    have HG : Hid (Try.prog.eqGuardType Try.prog.depth 150 = false) := Try.eqGuardType150
    unfold maxLen at m1
    clear c1 c2 m2 hlen hy
    go_enter Try.func94, Try.ntmps94
    go_wp2
    go_loopw [5] (fun i wr => ∃ k : Nat, k ≤ xs.length + 16 ∧ i = .int .i64 k ∧ xs.take k = ys.take k ∧ Below w.heap.size w wr) (fun i _ => xs.length + 16 - (intOf i).toNat)
    case atStart => exact ⟨0, Nat.zero_le _, rfl, rfl, Below.refl _ _⟩
    case round =>
      obtain ⟨k, hk, rfl, htk, hb⟩ := hrel
      have HT : Hid (xs.take k = ys.take k) := htk
      clear htk
      by_cases hlt : k < xs.length
      · have hlt2 : k < ys.length := by have := HL.out; omega
        obtain ⟨g1, of1, rfl, q1, -⟩ := C1.out k (.int .i64 xs[k]) (by simp [hlt])
        obtain ⟨g2, of2, rfl, q2, -⟩ := C2.out k (.int .i64 ys[k]) (by simp [hlt2])
        obtain ⟨X, hX⟩ : ∃ X, blk (xs.drop k) = X := ⟨_, rfl⟩
        obtain ⟨Y, hY⟩ : ∃ Y, blk (ys.drop k) = Y := ⟨_, rfl⟩
        obtain ⟨bb, hbb⟩ : ∃ b, decide (blkL (xs.drop k) = blkL (ys.drop k)) = b := ⟨_, rfl⟩
        have HBB : Hid (decide (blkL (xs.drop k) = blkL (ys.drop k)) = bb) := hbb
        have HEQ : ∀ W : World, (Op.equalIn 10000 150 (.agg X) (.agg Y)).run Try.prog W = .ok bb W := fun W => by rw [← hX, ← hY, ← hbb]; exact blk_equal _ _ W
        have hne := BelowOf.any wr
        have HA : ∀ z : BelowOf wr, Calls Try.prog 118 #[.slice (some ⟨g1, of1 + k, none⟩) (xs.length - k) (cap1 - k)] z.w' fun e w' => e = .returned (.agg X) ∧ Below z.w'.heap.size z.w' w' := fun z => by
          rw [← hX]
          exact blockOf_any _ _ _ (xs.drop k) z.w' (by simp) (by unfold maxLen; omega) (blk_cut k rfl (hb.trans (z.h.mono hb.size)) C1.out)
        have HB : ∀ z : BelowOf wr, Calls Try.prog 118 #[.slice (some ⟨g2, of2 + k, none⟩) (xs.length - k) (cap2 - k)] z.w' fun e w' => e = .returned (.agg Y) ∧ Below z.w'.heap.size z.w' w' := fun z => by
          rw [← hY]
          exact blockOf_any _ _ _ (ys.drop k) z.w' (by have := HL.out; simp; omega) (by unfold maxLen; omega) (blk_cut k rfl (hb.trans (z.h.mono hb.size)) C2.out)
        have hg := HG.out
        have n1 : ¬ cap1 = k := by omega
        have n2 : ¬ cap2 = k := by omega
        have n3 : k ≤ xs.length := by omega
        have n4 : k ≤ cap1 := by omega
        have n5 : k ≤ cap2 := by omega
        have i0 : (0 : Int) ≤ (k : Int) := by omega
        have i1 : (k : Int) < (xs.length : Int) := by omega
        have i2 : (k : Int) ≤ (xs.length : Int) := by omega
        clear hX hY hbb C1 C2
        go_wp2_with fail
        refine wp_region_of (by kernel_rfl) (by kernel_rfl) ?_
        repeat (go_big_quiet_step ((first | (go_at_call 118; first | exact calls_of (HA _) | exact calls_of (HB _)) | rfl)))
        refine wpQuiet_nil ?_
        intro w5 hw5
        obtain ⟨⟨wx, cx⟩, hwx⟩ := hw5
        have b5 : Below wr.heap.size wr w5 := by rw [hwx]; exact cx
        have hb5 := hb.trans (b5.mono hb.size)
        clear hwx cx wx hne HA HB HEQ hg
        cases bb
        · have HV : Hid (decide (xs = ys) = false) := by rw [Hid, decide_eq_false_iff_not]; intro e; have h := HBB.out; rw [e] at h; simp at h
          go_wp2_with fail
          go_ret
          exact ⟨ret_bool HV.out.symm, hb5⟩
        · have HV : Hid (xs.take (k + 16) = ys.take (k + 16)) := blk_more k HL.out HT.out (of_decide_eq_true HBB.out)
          go_wp2_with fail
          go_roundw
          case rel => exact ⟨k + 16, by omega, by go_num, HV.out, hb5⟩
          case measure => simp [intOf]; omega
      · have HV : Hid (decide (xs = ys) = true) := by
          rw [Hid, decide_eq_true_eq]
          have h := HT.out
          have := HL.out
          rwa [List.take_of_length_le (by omega), List.take_of_length_le (by omega)] at h
        have i1 : ¬ (k : Int) < (xs.length : Int) := by omega
        clear C1 C2
        go_wp2
        go_ret
        exact ⟨ret_bool HV.out.symm, hb⟩
  · have hn : ((xs.length : Int) != (ys.length : Int)) = true := by rw [bne_iff_ne]; omega
    have HX : Hid (decide (xs = ys) = false) := by rw [Hid, decide_eq_false_iff_not]; intro e; rw [e] at hlen; exact hlen rfl
    unfold maxLen at m1 m2
    clear hlen c1 c2
    go_enter Try.func94, Try.ntmps94
    go_wp2
    go_ret
    exact ⟨ret_bool HX.out.symm, Below.refl _ _⟩
end Go.Proofs.Ytkjdfgjmkomcgaa

namespace Go.Proofs.Ytkjdfgjmkomcgaa
open Go.RowKit

set_option linter.unusedVariables false


set_option maxRecDepth 100000 in
set_option maxHeartbeats 6400000 in
theorem samePlain_any (nm : ByteArray) (sz : Int) (m : Value) (rs : List Int) (fx : Bool) (ep : Int) (nm' : ByteArray) (sz' : Int) (m' : Value) (rs' : List Int) (fx' : Bool) (ep' : Int) (w : World) (hx : rs.length ≤ 1048576) (hy : rs'.length ≤ 1048576) (rm : ReadsR 1 intC w.heap.size w m rs) (rm' : ReadsR 1 intC w.heap.size w m' rs') :
    Calls Try.prog 59 #[.agg #[.string nm, .int .i64 sz, m, .bool fx, .int .i64 ep], .agg #[.string nm', .int .i64 sz', m', .bool fx', .int .i64 ep']] w fun e w' => e = .returned (.bool (sameOf nm nm' sz sz' fx fx' ep ep' rs rs')) ∧ Below w.heap.size w w' := by
  obtain ⟨oa, ca, hma⟩ := rm.form
  subst hma
  obtain ⟨ob, cb, hmb⟩ := rm'.form
  subst hmb
  obtain ⟨W2, hW2, kA, kB, d2, z2⟩ := box2 w #[.string nm, .int .i64 sz, .slice oa rs.length ca, .bool fx, .int .i64 ep] #[.string nm', .int .i64 sz', .slice ob rs'.length cb, .bool fx', .int .i64 ep'] 46 46
  have RA := readsK_to ((rm.below d2).mono d2.size)
  have RB := readsK_to ((rm'.below d2).mono d2.size)
  have u0 := at_cell kA 0
  have t0 := at_cell kB 0
  have u1 := at_cell kA 1
  have t1 := at_cell kB 1
  have u2 := at_cell kA 2
  have t2 := at_cell kB 2
  have u3 := at_cell kA 3
  have t3 := at_cell kB 3
  have u4 := at_cell kA 4
  have t4 := at_cell kB 4
  have D2 : Hid _ := And.intro RA (And.intro RB d2)
  clear rm rm' kA kB d2 z2 RA RB
  subst hW2
  cases h1 : (nm.toList == nm'.toList)
  · have n1 : (nm.toList != nm'.toList) = true := by simp [bne, h1]
    have HV : Hid (sameOf nm nm' sz sz' fx fx' ep ep' rs rs' = false) := by simp [Hid, sameOf, h1]
    go_enter Try.func59, Try.ntmps59
    go_wp2_with fail
    go_ret
    exact ⟨ret_bool HV.out.symm, D2.out.2.2⟩
  have n1 : (nm.toList != nm'.toList) = false := by simp [bne, h1]
  cases h2 : (sz == sz')
  · have n2 : (sz != sz') = true := by simp [bne, h2]
    have HV : Hid (sameOf nm nm' sz sz' fx fx' ep ep' rs rs' = false) := by simp [Hid, sameOf, h1, h2]
    go_enter Try.func59, Try.ntmps59
    go_wp2_with fail
    go_ret
    exact ⟨ret_bool HV.out.symm, D2.out.2.2⟩
  have n2 : (sz != sz') = false := by simp [bne, h2]
  cases h3 : (fx == fx')
  · have n3 : (fx != fx') = true := by simp [bne, h3]
    have HV : Hid (sameOf nm nm' sz sz' fx fx' ep ep' rs rs' = false) := by simp [Hid, sameOf, h1, h2, h3]
    go_enter Try.func59, Try.ntmps59
    go_wp2_with fail
    go_ret
    exact ⟨ret_bool HV.out.symm, D2.out.2.2⟩
  have n3 : (fx != fx') = false := by simp [bne, h3]
  cases h4 : (ep == ep')
  · have n4 : (ep != ep') = true := by simp [bne, h4]
    have HV : Hid (sameOf nm nm' sz sz' fx fx' ep ep' rs rs' = false) := by simp [Hid, sameOf, h1, h2, h3, h4]
    go_enter Try.func59, Try.ntmps59
    go_wp2_with fail
    go_ret
    exact ⟨ret_bool HV.out.symm, D2.out.2.2⟩
  have n4 : (ep != ep') = false := by simp [bne, h4]
  have HH : Hid (sameOf nm nm' sz sz' fx fx' ep ep' rs rs' = decide (rs = rs')) := by simp [Hid, sameOf, h1, h2, h3, h4]
  go_enter Try.func59, Try.ntmps59
  go_wp2_with fail
  refine (sameValues_any _ _ rs rs' _ hx hy D2.out.1 D2.out.2.1).mono ?_
  rintro e w3 ⟨rfl, b3⟩
  have hb3 := D2.out.2.2.trans (b3.mono D2.out.2.2.size)
  obtain ⟨bb, hbb⟩ : ∃ b, decide (rs = rs') = b := ⟨_, rfl⟩
  have HBB : Hid (decide (rs = rs') = bb) := hbb
  rw [hbb]
  clear hbb u0 u1 u2 u3 u4 t0 t1 t2 t3 t4
  go_wp2_with fail
  go_ret
  exact ⟨ret_bool (HH.out.trans HBB.out).symm, hb3⟩

set_option maxRecDepth 100000 in
set_option maxHeartbeats 6400000 in
theorem equalFunc_any (v v' : Value) (aks bks : List Pk) (w : World) (hra : ∀ b ∈ aks, b.rs.length ≤ 1048576) (hrb : ∀ b ∈ bks, b.rs.length ≤ 1048576) (ra : ReadsK w.heap.size w v aks) (rb : ReadsK w.heap.size w v' bks) :
    Calls Try.prog 58 #[v, v', .func (.func 59) #[] #[]] w fun e w' => e = .returned (.bool (samePlains (aks.map Pk.pv) (bks.map Pk.pv))) ∧ Below w.heap.size w w' := by
  have RM : Hid _ := ra.maps
  have RM' : Hid _ := rb.maps
  have RL : Hid _ := hra
  have RL' : Hid _ := hrb
  obtain ⟨o1, cap1, rfl, m1, c1, -⟩ := ra.row
  obtain ⟨o2, cap2, rfl, m2, c2, -⟩ := rb.row
  have C1 : Hid _ := five_cellsK c1
  have C2 : Hid _ := five_cellsK c2
  unfold maxLen at m1 m2
  clear c1 c2 ra rb hra hrb
  by_cases hlen : aks.length = bks.length
  · have HL : Hid (bks.length = aks.length) := hlen.symm
    rw [← hlen]
    clear hlen
    obtain ⟨ps, hps⟩ : ∃ ps, aks.map Pk.pv = ps := ⟨_, rfl⟩
    obtain ⟨bs, hbs⟩ : ∃ bs, bks.map Pk.pv = bs := ⟨_, rfl⟩
    have HA : Hid (ps.length = aks.length ∧ ∀ (i : Nat) (h1 : i < aks.length) (h2 : i < ps.length), ps[i] = aks[i].pv) := by subst hps; exact ⟨by simp, fun i h1 h2 => by simp⟩
    have HB : Hid (bs.length = bks.length ∧ ∀ (i : Nat) (h1 : i < bks.length) (h2 : i < bs.length), bs[i] = bks[i].pv) := by subst hbs; exact ⟨by simp, fun i h1 h2 => by simp⟩
    rw [hps, hbs]
    clear hps hbs
    go_enter Try.func58, Try.ntmps58
    go_wp2_with fail
    go_loopw [17] (fun i wr => ∃ q : Nat, q ≤ aks.length ∧ i = .int .i64 q ∧ (∀ j (h1 : j < ps.length) (h2 : j < bs.length), j < q → ps[j].same bs[j] = true) ∧ Below w.heap.size w wr) (fun i _ => aks.length - (intOf i).toNat)
    case atStart => exact ⟨0, Nat.zero_le _, rfl, fun j _ _ h => by omega, Below.refl _ _⟩
    case round =>
      obtain ⟨q, hq, rfl, hall, hb⟩ := hrel
      have HALL : Hid _ := hall
      clear hall
      by_cases hlt : q < aks.length
      · have hlt2 : q < bks.length := by have := HL.out; omega
        obtain ⟨g1, of1, rfl, q1, a0, a1, a2, a3, a4⟩ := C1.out q hlt
        obtain ⟨g2, of2, rfl, q2, b0, b1, b2, b3, b4⟩ := C2.out q hlt2
        have rm := ((RM.out aks[q] (List.getElem_mem hlt)).below hb).mono hb.size
        have rm' := ((RM'.out bks[q] (List.getElem_mem hlt2)).below hb).mono hb.size
        have rl := RL.out aks[q] (List.getElem_mem hlt)
        have rl' := RL'.out bks[q] (List.getElem_mem hlt2)
        have hqa : q < ps.length := by have := HA.out.1; omega
        have hqb : q < bs.length := by have := HB.out.1; omega
        have hat := HA.out.2 q hlt hqa
        have hbt := HB.out.2 q hlt2 hqb
        obtain ⟨x, hx⟩ : ∃ x, aks[q] = x := ⟨_, rfl⟩
        obtain ⟨y, hy⟩ : ∃ y, bks[q] = y := ⟨_, rfl⟩
        rw [hx] at a0 a1 a2 a3 a4 rm hat rl
        rw [hy] at b0 b1 b2 b3 b4 rm' hbt rl'
        clear hx hy
        obtain ⟨nm, sz, m, rs, fx, ep⟩ := x
        obtain ⟨nm', sz', m', rs', fx', ep'⟩ := y
        simp only at a0 a1 a2 a3 a4 rm b0 b1 b2 b3 b4 rm' rl rl'
        obtain ⟨oa, ca, hma⟩ := rm.form
        subst hma
        obtain ⟨ob, cb, hmb⟩ := rm'.form
        subst hmb
        have HSM : Hid (ps[q].same bs[q] = sameOf nm nm' sz sz' fx fx' ep ep' rs rs') := by rw [Hid, hat, hbt]; rfl
        clear hat hbt
        replace a0 := (hb.cell (p := ⟨g1, of1 + q * 5, none⟩) q1).trans a0
        replace a1 := (hb.cell (p := ⟨g1, of1 + q * 5 + 1, none⟩) q1).trans a1
        replace a2 := (hb.cell (p := ⟨g1, of1 + q * 5 + 2, none⟩) q1).trans a2
        replace a3 := (hb.cell (p := ⟨g1, of1 + q * 5 + 3, none⟩) q1).trans a3
        replace a4 := (hb.cell (p := ⟨g1, of1 + q * 5 + 4, none⟩) q1).trans a4
        replace b0 := (hb.cell (p := ⟨g2, of2 + q * 5, none⟩) q2).trans b0
        replace b1 := (hb.cell (p := ⟨g2, of2 + q * 5 + 1, none⟩) q2).trans b1
        replace b2 := (hb.cell (p := ⟨g2, of2 + q * 5 + 2, none⟩) q2).trans b2
        replace b3 := (hb.cell (p := ⟨g2, of2 + q * 5 + 3, none⟩) q2).trans b3
        replace b4 := (hb.cell (p := ⟨g2, of2 + q * 5 + 4, none⟩) q2).trans b4
        obtain ⟨WA, hWA, -, dA, -⟩ := box1 wr #[.string nm, .int .i64 sz, .slice oa rs.length ca, .bool fx, .int .i64 ep] 46
        have l2 : g2 < wr.heap.size := Nat.lt_of_lt_of_le q2 hb.size
        replace b0 := (dA.cell (p := ⟨g2, of2 + q * 5, none⟩) l2).trans b0
        replace b1 := (dA.cell (p := ⟨g2, of2 + q * 5 + 1, none⟩) l2).trans b1
        replace b2 := (dA.cell (p := ⟨g2, of2 + q * 5 + 2, none⟩) l2).trans b2
        replace b3 := (dA.cell (p := ⟨g2, of2 + q * 5 + 3, none⟩) l2).trans b3
        replace b4 := (dA.cell (p := ⟨g2, of2 + q * 5 + 4, none⟩) l2).trans b4
        obtain ⟨W2, hW2, kA, kB, d2, z2⟩ := box2 wr #[.string nm, .int .i64 sz, .slice oa rs.length ca, .bool fx, .int .i64 ep] #[.string nm', .int .i64 sz', .slice ob rs'.length cb, .bool fx', .int .i64 ep'] 46 46
        have RA := (rm.below d2).mono d2.size
        have RB := (rm'.below d2).mono d2.size
        have hb2 := hb.trans (d2.mono hb.size)
        have u0 := at_cell kA 0
        have t0 := at_cell kB 0
        have u1 := at_cell kA 1
        have t1 := at_cell kB 1
        have u2 := at_cell kA 2
        have t2 := at_cell kB 2
        have u3 := at_cell kA 3
        have t3 := at_cell kB 3
        have u4 := at_cell kA 4
        have t4 := at_cell kB 4
        have i0 : (0 : Int) ≤ (q : Int) := by omega
        have i1 : (q : Int) < (aks.length : Int) := by omega
        have D2 : Hid _ := And.intro RA (And.intro RB hb2)
        clear rm rm' kA kB d2 z2 RA RB hb2 dA
        subst hWA hW2
        clear C1 C2 RM RM' RL RL'
        go_wp2_with fail
        refine (samePlain_any nm sz _ rs fx ep nm' sz' _ rs' fx' ep' _ rl rl' D2.out.1 D2.out.2.1).mono ?_
        rintro e w3 ⟨rfl, b3⟩
        have hb3 := D2.out.2.2.trans (b3.mono D2.out.2.2.size)
        obtain ⟨bb, hbb⟩ : ∃ b, sameOf nm nm' sz sz' fx fx' ep ep' rs rs' = b := ⟨_, rfl⟩
        have HBB : Hid (sameOf nm nm' sz sz' fx fx' ep ep' rs rs' = bb) := hbb
        rw [hbb]
        clear hbb a0 a1 a2 a3 a4 b0 b1 b2 b4 u0 u1 u2 u3 u4 t0 t1 t2 t3 t4
        cases bb
        · have HV : Hid (samePlains ps bs = false) := same_no q hqa hqb (by rw [HSM.out]; exact HBB.out)
          go_wp2_with fail
          go_ret
          exact ⟨ret_bool HV.out.symm, hb3⟩
        · have HV : Hid (ps[q].same bs[q] = true) := by rw [Hid, HSM.out]; exact HBB.out
          go_wp2_with fail
          go_roundw
          case rel => exact ⟨q + 1, by omega, by go_num, (fun j h1 h2 hj => by
            rcases Nat.lt_or_ge j q with y | y
            · exact HALL.out j h1 h2 y
            · obtain rfl : j = q := by omega
              exact HV.out), hb3⟩
          case measure => simp [intOf]; omega
      · have HV : Hid (samePlains ps bs = true) := same_yes (by have := HA.out.1; have := HB.out.1; have := HL.out; omega) (fun i h1 h2 => HALL.out i h1 h2 (by have := HA.out.1; omega))
        have i1 : ¬ (q : Int) < (aks.length : Int) := by omega
        clear HALL C1 C2
        go_wp2_with fail
        go_ret
        exact ⟨ret_bool HV.out.symm, hb⟩
  · have hn : ((aks.length : Int) != (bks.length : Int)) = true := by rw [bne_iff_ne]; omega
    have HX : Hid (samePlains (aks.map Pk.pv) (bks.map Pk.pv) = false) := same_len (by simpa using hlen)
    clear hlen
    go_enter Try.func58, Try.ntmps58
    go_wp2_with fail
    go_ret
    exact ⟨ret_bool HX.out.symm, Below.refl _ _⟩

set_option maxHeartbeats 1600000 in
theorem implSamePlains_any (v v' : Value) (aks bks : List Pk) (w : World) (hra : ∀ b ∈ aks, b.rs.length ≤ 1048576) (hrb : ∀ b ∈ bks, b.rs.length ≤ 1048576) (ra : ReadsK w.heap.size w v aks) (rb : ReadsK w.heap.size w v' bks) :
    Calls Try.prog 27 #[v, v'] w fun e w' => e = .returned (.bool (samePlains (aks.map Pk.pv) (bks.map Pk.pv))) ∧ Below w.heap.size w w' := by
  obtain ⟨o1, cap1, rfl, -⟩ := id ra.row
  obtain ⟨o2, cap2, rfl, -⟩ := id rb.row
  obtain ⟨bb, hbb⟩ : ∃ b, samePlains (aks.map Pk.pv) (bks.map Pk.pv) = b := ⟨_, rfl⟩
  have HBB : Hid (samePlains (aks.map Pk.pv) (bks.map Pk.pv) = bb) := hbb
  rw [hbb]
  have HRA : Hid (ReadsK w.heap.size w (.slice o1 aks.length cap1) aks ∧ ReadsK w.heap.size w (.slice o2 bks.length cap2) bks) := ⟨ra, rb⟩
  have HRL : Hid ((∀ b ∈ aks, b.rs.length ≤ 1048576) ∧ (∀ b ∈ bks, b.rs.length ≤ 1048576)) := ⟨hra, hrb⟩
  clear hbb ra rb hra hrb
  go_enter Try.func27, Try.ntmps27
  go_wp2_with fail
  refine (equalFunc_any _ _ aks bks _ HRL.out.1 HRL.out.2 HRA.out.1 HRA.out.2).mono ?_
  rw [HBB.out]
  rintro e w3 ⟨rfl, b3⟩
  go_wp2_with fail
  go_ret
  exact ⟨rfl, b3⟩
end Go.Proofs.Ytkjdfgjmkomcgaa

