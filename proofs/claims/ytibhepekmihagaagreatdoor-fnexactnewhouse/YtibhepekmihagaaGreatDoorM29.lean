/-
  Contracts and plain laws, one chapter behind the other.
-/
import Derived.Test.YtibhepekmihagaaGreatDoorM11
import Derived.Test.YtibhepekmihagaaGreatDoorM14
import Derived.Test.YtibhepekmihagaaGreatDoorM25
import Derived.Test.YtibhepekmihagaaGreatDoorM26
import Derived.Test.YtibhepekmihagaaGreatDoorM27
import Derived.Test.YtibhepekmihagaaGreatDoorM28
namespace Go.Proofs.YtibhepekmihagaaGreatDoor
open Go.RowKit

set_option linter.unusedVariables false

set_option maxRecDepth 100000


def nwOk (n m : Int) : Bool := (newH n).2.2 && (decide (1 ≤ m) && decide (m ≤ 4))

def nwAt (n m : Int) (st : Rp) (i : Nat) : Bool × Int × Int × Rp := if (i : Int) < m then (true, n, 0, st) else (false, 0, 0, Rp.zero)

def nwHs (n m : Int) : List (Bool × Int × Int × Rp) := if nwOk n m = true then (List.range 4).map (nwAt n m (newH n).2.1) else []

def nwMs (m : Int) (j : Nat) : List Int := (List.range (min j m.toNat)).map (fun i : Nat => (i : Int))

def nwNo (n m : Int) : Int := if nwOk n m = true then 1 else 0

def nwMm (n m : Int) : List Int := if nwOk n m = true then nwMs m 4 else []

def nwCl (n m : Int) : List Cl := if nwOk n m = true then List.replicate 4 Cl.zero else []

theorem nw_no {n m : Int} (h : nwOk n m = false) : nwHs n m = [] ∧ nwNo n m = 0 ∧ nwMm n m = [] ∧ nwCl n m = [] := by
  unfold nwHs nwNo nwMm nwCl
  rw [h]
  exact ⟨rfl, rfl, rfl, rfl⟩

theorem nw_yes {n m : Int} (h : nwOk n m = true) : nwHs n m = (List.range 4).map (nwAt n m (newH n).2.1) ∧ nwNo n m = 1 ∧ nwMm n m = nwMs m 4 ∧ nwCl n m = List.replicate 4 Cl.zero := by
  unfold nwHs nwNo nwMm nwCl
  rw [h]
  exact ⟨rfl, rfl, rfl, rfl⟩

theorem newH_four {n : Int} (h : (newH n).2.2 = true) : (newH n).2.1.ts.length = 4 ∧ (newH n).2.1.rs.length = 4 := by
  have h' : (replay n []).2 = true := h
  show (replay n []).1.ts.length = 4 ∧ (replay n []).1.rs.length = 4
  unfold replay at h' ⊢
  split
  · exact ⟨rfl, rfl⟩
  · rename_i q; rw [if_neg q] at h'; cases h'

theorem newH_in (n : Int) : (newH n).2.2 = (decide (1 ≤ n) && decide (n ≤ 24)) := by
  show (replay n []).2 = _
  unfold replay rpOk
  by_cases h1 : 1 ≤ n
  · by_cases h2 : n ≤ 24
    · rw [(inB_iff _ _ _).2 ⟨h1, h2⟩, decide_eq_true h1, decide_eq_true h2]; rfl
    · have : inB n 1 24 = false := by rw [Bool.eq_false_iff]; intro h; exact h2 ((inB_iff _ _ _).1 h).2
      rw [this, decide_eq_false h2, Bool.and_false]; rfl
  · have : inB n 1 24 = false := by rw [Bool.eq_false_iff]; intro h; exact h1 ((inB_iff _ _ _).1 h).1
    rw [this, decide_eq_false h1, Bool.false_and]; rfl

theorem nwMs_len (m : Int) (j : Nat) : (nwMs m j).length = min j m.toNat := by simp [nwMs]

theorem nwMs_succ {m : Int} {j : Nat} (h : (j : Int) < m) : nwMs m (j + 1) = nwMs m j ++ [(j : Int)] := by
  unfold nwMs
  rw [show min (j + 1) m.toNat = j + 1 by omega, show min j m.toNat = j by omega, List.range_succ, List.map_append]
  rfl

theorem nwMs_stay {m : Int} {j : Nat} (h : ¬ (j : Int) < m) : nwMs m (j + 1) = nwMs m j := by
  unfold nwMs
  rw [show min (j + 1) m.toNat = min j m.toNat by omega]

theorem nwHs_mem {n m : Int} {hs : List Hw} (h : hs.map Hw.pl = nwHs n m) : ∀ x ∈ hs, x.ac = 0 ∧ (x.st = (newH n).2.1 ∨ x.st = Rp.zero) := by
  intro x hx
  have h1 : x.pl ∈ nwHs n m := by rw [← h]; exact List.mem_map_of_mem hx
  unfold nwHs at h1
  split at h1
  · obtain ⟨i, -, hi⟩ := List.mem_map.1 h1
    unfold nwAt Hw.pl at hi
    split at hi
    · have := congrArg (fun z => z.2.2) hi
      simp only [Prod.mk.injEq] at this
      exact ⟨this.1.symm, .inl this.2.symm⟩
    · have := congrArg (fun z => z.2.2) hi
      simp only [Prod.mk.injEq] at this
      exact ⟨this.1.symm, .inr this.2.symm⟩
  · cases h1

theorem nwHs_small {n m : Int} {hs : List Hw} (h : hs.map Hw.pl = nwHs n m) : ∀ x ∈ hs, x.st.s.cs.length ≤ 24 ∧ x.st.s.ps.length ≤ 24 ∧ x.st.ts.length ≤ 4 ∧ x.st.rs.length ≤ 4 := by
  intro x hx
  rcases (nwHs_mem h x hx).2 with e | e
  · rw [e]; exact newH_len n
  · rw [e]; exact ⟨Nat.zero_le _, Nat.zero_le _, Nat.zero_le _, Nat.zero_le _⟩

theorem nwHs_len {n m : Int} {hs : List Hw} (h : hs.map Hw.pl = nwHs n m) : hs.length ≤ 4 := by
  have h1 := congrArg List.length h
  rw [List.length_map] at h1
  unfold nwHs at h1
  split at h1
  · rw [List.length_map, List.length_range] at h1; omega
  · rw [List.length_nil] at h1; omega

theorem marksHE_small (hs : List Hw) : ∀ (k : Int), (∀ x ∈ hs, x.st.s.cs.length ≤ 24 ∧ x.st.s.ps.length ≤ 24 ∧ x.st.ts.length ≤ 4 ∧ x.st.rs.length ≤ 4) → marksHE k hs ≤ k + 63 * hs.length := by
  induction hs with
  | nil => intro k _; show k ≤ k + 63 * ((0 : Nat) : Int); omega
  | cons b t ih =>
    intro k h
    have h1 := ih (markHN k b) (fun x hx => h x (List.mem_cons_of_mem _ hx))
    have h2 := h b List.mem_cons_self
    have h3 : markHN k b ≤ k + 63 := by unfold markHN; omega
    rw [marksHE, List.length_cons]
    omega

theorem nw_wdE {n m : Int} {hs : List Hw} (h : hs.map Hw.pl = nwHs n m) : 1 ≤ wdE 1 hs (nwMm n m) (nwCl n m) ∧ wdE 1 hs (nwMm n m) (nwCl n m) ≤ 1048576 := by
  have h1 := marksHE_small hs 1 (nwHs_small h)
  have h2 := nwHs_len h
  have h3 := marksHE_ge hs 1
  have h4 : (nwMm n m).length ≤ 4 := by
    unfold nwMm
    split
    · rw [nwMs_len]; omega
    · exact Nat.zero_le _
  have h5 : (nwCl n m).length ≤ 4 := by
    unfold nwCl
    split
    · simp
    · exact Nat.zero_le _
  unfold wdE
  omega

theorem nw_sizes {n m : Int} {hs : List Hw} (h : hs.map Hw.pl = nwHs n m) : ∀ x ∈ hs, x.st.s.cs.length ≤ 1048576 ∧ x.st.s.ps.length ≤ 1048576 ∧ x.st.ts.length ≤ 1048576 ∧ x.st.rs.length ≤ 1048576 := fun x hx => by
  have := nwHs_small h x hx
  omega

/-- What NewWorld tells: a world of one's own. -/
def NwP (w : World) (n m : Int) (e : Ending) (w' : World) : Prop := ∃ (oh : Option Addr) (nh ch : Nat) (om : Option Addr) (nm cm : Nat) (oc : Option Addr) (nc cc : Nat) (hs : List Hw), e = .returned (.tuple #[.agg #[.slice oh nh ch, .int .i64 (nwNo n m), .slice om nm cm, .slice none 0 0, .slice oc nc cc, .slice none 0 0], .bool (nwOk n m)]) ∧ OwnWd w.heap.size w' (.slice oh nh ch) (.slice om nm cm) (.slice oc nc cc) hs (nwMm n m) (nwCl n m) ∧ hs.map Hw.pl = nwHs n m ∧ Below w.heap.size w w'

theorem NwP.no {w w' : World} {n m : Int} (h : nwOk n m = false) (d : Below w.heap.size w w') : NwP w n m (.returned (.tuple #[.agg #[.slice none 0 0, .int .i64 0, .slice none 0 0, .slice none 0 0, .slice none 0 0, .slice none 0 0], .bool false])) w' := by
  obtain ⟨e1, e2, e3, e4⟩ := nw_no h
  refine ⟨none, 0, 0, none, 0, 0, none, 0, 0, [], ?_, ?_, ?_, d⟩
  · rw [e2, h]
  · rw [e3, e4]; exact OwnWd.nil _ _
  · rw [e1]; rfl

theorem NwP.yes {w w' : World} {n m : Int} (h : nwOk n m = true) {oh : Option Addr} {nh ch : Nat} {om : Option Addr} {nm cm : Nat} {oc : Option Addr} {nc cc : Nat} {hs : List Hw} (o : OwnWd w.heap.size w' (.slice oh nh ch) (.slice om nm cm) (.slice oc nc cc) hs (nwMs m 4) (List.replicate 4 Cl.zero)) (hp : hs.map Hw.pl = (List.range 4).map (nwAt n m (newH n).2.1)) (d : Below w.heap.size w w') : NwP w n m (.returned (.tuple #[.agg #[.slice oh nh ch, .int .i64 1, .slice om nm cm, .slice none 0 0, .slice oc nc cc, .slice none 0 0], .bool true])) w' := by
  obtain ⟨e1, e2, e3, e4⟩ := nw_yes h
  refine ⟨oh, nh, ch, om, nm, cm, oc, nc, cc, hs, ?_, ?_, ?_, d⟩
  · rw [e2, h]
  · rw [e3, e4]; exact o
  · rw [e1]; exact hp

/-! ### Appending to a row of houses -/
theorem one_house (h : Hw) : ∀ u ∈ hwC h, u.oneCell' = true := fun u hu => by
  simp [hwC] at hu
  rcases hu with rfl | rfl | rfl | rfl | rfl | rfl | rfl | rfl | rfl <;> rfl

theorem new_house (w : World) (h : Hw) (t : TypeId) : ∀ (j : Nat) (u : Value), (hwC h)[j]? = some u → (w.alloc (.cells #[.bool h.up, .int .i64 h.pg, .slice h.lo 0 h.lc, .int .i64 h.ac, .slice h.o1 h.st.s.cs.length h.c1, .slice h.o2 h.st.s.ps.length h.c2, .slice h.o3 0 h.c3, .slice h.o4 h.st.ts.length h.c4, .slice h.o5 h.st.rs.length h.c5] t)).cell? ((⟨w.heap.size, 0, none⟩ : Addr).add j) = some u := by
  intro j u hj
  rw [addr_add]
  have e := World.cell?_alloc_mark w #[.bool h.up, .int .i64 h.pg, .slice h.lo 0 h.lc, .int .i64 h.ac, .slice h.o1 h.st.s.cs.length h.c1, .slice h.o2 h.st.s.ps.length h.c2, .slice h.o3 0 h.c3, .slice h.o4 h.st.ts.length h.c4, .slice h.o5 h.st.rs.length h.c5] t (0, 0) j
  exact e.trans ((show (#[.bool h.up, .int .i64 h.pg, .slice h.lo 0 h.lc, .int .i64 h.ac, .slice h.o1 h.st.s.cs.length h.c1, .slice h.o2 h.st.s.ps.length h.c2, .slice h.o3 0 h.c3, .slice h.o4 h.st.ts.length h.c4, .slice h.o5 h.st.rs.length h.c5] : Array Value)[j]? = (hwC h)[j]? by simp [hwC]).trans hj)

theorem only_grown {w w' : World} {row : Option Nat} (g : w.grownBy w' row) : Only (fun k => row = some k) w w' := ⟨g.os, g.tape, g.output, g.size, fun k hk hn => g.block k hk (fun h => hn h.symm)⟩

/-- One house more: its rows lie behind those of the others, or it has none. -/
theorem ApartH.snoc {hs : List Hw} (h : ApartH hs) (y : Hw) (hy : ∀ b ∈ hs, ∀ i, b.In i → ¬ y.In i) : ApartH (hs ++ [y]) :=
  List.pairwise_append.2 ⟨h, List.pairwise_singleton _ _, fun a ha b hb => by simp only [List.mem_singleton] at hb; subst hb; exact hy a ha⟩

theorem OwnWd.only {base : Nat} {w w' : World} {vh vm vc : Value} {hs : List Hw} {ms : List Int} {cs : List Cl} {S : Nat → Prop} (o : OwnWd base w vh vm vc hs ms cs) (on : Only S w w') (hS : ∀ i, InWd vh vm vc hs i → ¬ S i) : OwnWd base w' vh vm vc hs ms cs :=
  ⟨⟨own_only o.h.row on (fun q hq => hS q (.inl (.inl hq))), fun x hx => (o.h.own x hx).only on (fun i hi => hS i (.inl (.inr ⟨x, hx, hi⟩))), o.h.ap, o.h.apart⟩, ⟨own_only o.m.c on (fun q hq => hS q (.inr (.inl hq)))⟩, own_only o.c on (fun q hq => hS q (.inr (.inr hq))), o.a⟩

/-- A world of one's own stays where its box is written. -/
theorem OwnWd.box {base c : Nat} {w w' : World} {vh vm vc : Value} {hs : List Hw} {ms : List Int} {cs : List Cl} {zs : Array Value} (o : OwnWd base w vh vm vc hs ms cs) (k : w.heap[c]? = some (.cells zs 71 (0, 0))) (u : Upto c w w') : OwnWd base w' vh vm vc hs ms cs :=
  o.only (onlyUp u) (fun i hi e => o.notBox k (by rw [← e]; exact hi))

theorem OwnWd.upto {base c : Nat} {w w' : World} {vh vm vc : Value} {hs : List Hw} {ms : List Int} {cs : List Cl} (o : OwnWd base w vh vm vc hs ms cs) (u : Upto c w w') (hc : c < base) : OwnWd base w' vh vm vc hs ms cs :=
  o.only (onlyUp u) (fun i hi e => by have := (o.span i hi).1; omega)

/-- One member more. -/
theorem OwnWd.member {base g cp N H : Nat} {w w' : World} {vh vm vc : Value} {hs : List Hw} {ms : List Int} {cs : List Cl} (o : OwnWd base w vh vm vc hs ms cs) (y : Int) (r : w'.ownsRow base 2 1 (.slice (some ⟨g, 0, none⟩) N cp) (ms.length + 1) (ms.map (Value.int .i64) ++ [.int .i64 y])) (gr : w.grownBy w' vm.ownBlock) (hat : vm.ownBlock = some g ∨ g = H) (hH : w.heap.size ≤ H) : OwnWd base w' vh (.slice (some ⟨g, 0, none⟩) N cp) vc hs (ms ++ [y]) cs := by
  have on := only_grown gr
  refine ⟨⟨own_only o.h.row on (fun q hq e => rows_two o.h.row o.m.c (by decide) q hq e), fun x hx => (o.h.own x hx).only on (fun i hi e => o.a x hx i hi e), o.h.ap, o.h.apart⟩, ⟨by simpa using r⟩, own_only o.c on (fun q hq e => rows_two o.c o.m.c (by decide) q hq e), fun x hx i hi e => ?_⟩
  have hgi : g = i := by cases e; rfl
  rcases hat with h | h
  · exact o.a x hx i hi (by rw [h, hgi])
  · have := (o.h.own x hx).span i hi
    omega

/-- One house more. -/
theorem OwnWd.house {base : Nat} {w w' : World} {vh vh' vm vc : Value} {hs : List Hw} {ms : List Int} {cs : List Cl} (o : OwnWd base w vh vm vc hs ms cs) (y : Hw) (hy : y.Own base w) (ha : y.Ap) (hap : ∀ b ∈ hs, ∀ i, b.In i → ¬ y.In i) (hym : ∀ i, y.In i → vm.ownBlock ≠ some i) (r : w'.ownsRow base 33 9 vh' (hs.length + 1) (hs.flatMap hwC ++ hwC y)) (gr : w.grownBy w' vh.ownBlock) : OwnWd base w' vh' vm vc (hs ++ [y]) ms cs := by
  have on := only_grown gr
  have hown : ∀ x : Hw, x.Own base w → x.Own base w' := fun x hx => hx.only on (fun i hi e => hx.notRow o.h.row (by decide) (by decide) (by decide) (by decide) i hi e)
  refine ⟨⟨by simpa using r, fun x hx => ?_, fun x hx => ?_, o.h.apart.snoc y hap⟩, ⟨own_only o.m.c on (fun q hq e => rows_two o.m.c o.h.row (by decide) q hq e)⟩, own_only o.c on (fun q hq e => rows_two o.c o.h.row (by decide) q hq e), fun x hx => ?_⟩
  · rcases List.mem_append.1 hx with h | h
    · exact hown x (o.h.own x h)
    · simp only [List.mem_singleton] at h; subst h; exact hown x hy
  · rcases List.mem_append.1 hx with h | h
    · exact o.h.ap x h
    · simp only [List.mem_singleton] at h; subst h; exact ha
  · rcases List.mem_append.1 hx with h | h
    · exact o.a x h
    · simp only [List.mem_singleton] at h; subst h; exact hym
end Go.Proofs.YtibhepekmihagaaGreatDoor

namespace Go.Proofs.YtibhepekmihagaaGreatDoor
open Go.RowKit

set_option linter.unusedVariables false

set_option maxRecDepth 100000


/-- What l8Do leaves behind. -/
def DoPost (base b : Nat) (v1 v2 : Value) (s : Sf) (o : Oq) (w : World) (e : Ending) (w' : World) : Prop :=
  ∃ (vb' : Value) (bks' : List Bk), e = .returned (.agg #[.int .i64 (doOp s o).2.1, .int .i64 (doOp s o).2.2]) ∧ ShSt base b w' v1 v2 vb' bks' (doOp s o).1 ∧ Below base w w'

theorem DoPost.drew {base b : Nat} {v1 v2 : Value} {s : Sf} {o : Oq} {w w' : World} {e : Ending} (h : DoPost base b v1 v2 s o w e w') : DoPost base b v1 v2 s o w e w'.drew := by
  obtain ⟨vb, bks, h1, h2, h3⟩ := h
  exact ⟨vb, bks, h1, h2.below ((Below.refl _ _).drew), h3.drew⟩
end Go.Proofs.YtibhepekmihagaaGreatDoor

namespace Go.Proofs.YtibhepekmihagaaGreatDoor
open Go.RowKit

set_option linter.unusedVariables false

set_option maxRecDepth 100000


/-- What lies below a number stays so, and what G names. -/
structure Fr (G : Nat → Prop) (base : Nat) (w w' : World) : Prop where
  b : Below base w w'
  g : ∀ k, G k → k < w.heap.size → w'.heap[k]? = w.heap[k]?

theorem Fr.trans {G : Nat → Prop} {base : Nat} {x y z : World} (h : Fr G base x y) (k : Fr G base y z) : Fr G base x z :=
  ⟨h.b.trans k.b, fun i hi hl => (k.g i hi (Nat.lt_of_lt_of_le hl h.b.size)).trans (h.g i hi hl)⟩

theorem Fr.drew {G : Nat → Prop} {base : Nat} {x y : World} (h : Fr G base x y) : Fr G base x y.drew := ⟨h.b.drew, h.g⟩

theorem Fr.set {G : Nat → Prop} {base : Nat} {x y : World} (h : Fr G base x y) (p : Addr) (hb : base ≤ p.block) (hg : ¬ G p.block) (u : Value) : Fr G base x (y.setCell p u) :=
  ⟨h.b.setCell hb u, fun k hk hl => (Below.heap_setCell y p u k (fun e => hg (by rw [← e]; exact hk))).trans (h.g k hk hl)⟩

theorem fr_only {G S : Nat → Prop} {base : Nat} {w w' : World} (k : Only S w w') (hb : base ≤ w.heap.size) (h1 : ∀ i, S i → base ≤ i) (h2 : ∀ i, S i → ¬ G i) : Fr G base w w' :=
  ⟨k.toBelow hb h1, fun i hi hl => k.block i hl (fun hs => h2 i hs hi)⟩

/-- What type a block has in which a shelf may lie. -/
structure HoldsSh (T : TypeId) : Prop where
  i : T ≠ 2
  b : T ≠ 133
  r : T ≠ 185
  rp : T ≠ 126
  o : T ≠ 89

theorem holds_shelf : HoldsSh 28 := ⟨by decide, by decide, by decide, by decide, by decide⟩

structure ShSg (G : Nat → Prop) (C : Array Value) (T : TypeId) (off base b : Nat) (w : World) (v1 v2 vb : Value) (bks : List Bk) (s : Sf) : Prop where
  box : w.heap[b]? = some (.cells (C.setIfInBounds (off + 2) vb) T (0, 0))
  hT : HoldsSh T
  e0 : C[off]? = some v1
  e1 : C[off + 1]? = some v2
  e2 : off + 2 < C.size
  lo : base ≤ b
  pool : OwnP base w v1 v2 s.cs s.ps
  books : OwnB base w vb bks
  eq : bks.map Bk.pb = s.bs
  ng : ∀ i, ShW b v1 v2 vb i → ¬ G i
  gl : ∀ k, G k → k < w.heap.size

variable {G : Nat → Prop} {C : Array Value} {T : TypeId} {off base b : Nat} {w w' : World} {v1 v2 vb : Value} {bks : List Bk} {s : Sf}

theorem ShSg.lt (h : ShSg G C T off base b w v1 v2 vb bks s) : b < w.heap.size := heap_lt h.box

theorem ShSg.hbase (h : ShSg G C T off base b w v1 v2 vb bks s) : base ≤ w.heap.size := Nat.le_trans h.lo (Nat.le_of_lt h.lt)

theorem ShSg.c0 (h : ShSg G C T off base b w v1 v2 vb bks s) : w.cell? ⟨b, off, none⟩ = some v1 :=
  (at_cell h.box off).trans ((Array.getElem?_setIfInBounds_ne (by omega)).trans h.e0)

theorem ShSg.c1 (h : ShSg G C T off base b w v1 v2 vb bks s) : w.cell? ⟨b, off + 1, none⟩ = some v2 :=
  (at_cell h.box (off + 1)).trans ((Array.getElem?_setIfInBounds_ne (by omega)).trans h.e1)

theorem ShSg.c2 (h : ShSg G C T off base b w v1 v2 vb bks s) : w.cell? ⟨b, off + 2, none⟩ = some vb :=
  (at_cell h.box (off + 2)).trans (by simp [h.e2])

theorem ShSg.f2 (h : ShSg G C T off base b w v1 v2 vb bks s) : w.frozen? ⟨b, off + 2, none⟩ = false := at_open h.box (off + 2)

theorem ShSg.n1 (h : ShSg G C T off base b w v1 v2 vb bks s) : v1.ownBlock ≠ some b := own_not_box h.pool.c h.box h.hT.i

theorem ShSg.n2 (h : ShSg G C T off base b w v1 v2 vb bks s) : v2.ownBlock ≠ some b := own_not_box h.pool.p h.box h.hT.i

theorem ShSg.not_box (h : ShSg G C T off base b w v1 v2 vb bks s) {n : Nat} {cs : Array Value} {U : TypeId} (k : w.heap[n]? = some (.cells cs U (0, 0))) (hU : T ≠ U) : ¬ n = b := fun e => by
  have hb := h.box
  rw [← e, k] at hb
  simp at hb
  exact hU hb.2.symm

theorem ShSg.below (h : ShSg G C T off base b w v1 v2 vb bks s) (k : Below w.heap.size w w') : ShSg G C T off base b w' v1 v2 vb bks s :=
  ⟨(k.block _ h.lt).trans h.box, h.hT, h.e0, h.e1, h.e2, h.lo, h.pool.below k, h.books.below k, h.eq, h.ng, fun i hi => Nat.lt_of_lt_of_le (h.gl i hi) k.size⟩

theorem ShSg.forms (h : ShSg G C T off base b w v1 v2 vb bks s) : ∀ x ∈ bks, ∃ o k cp, x.m = .slice o k cp := fun x hx => by
  obtain ⟨o, cp, e⟩ := own_slice (h.books.maps x hx)
  exact ⟨o, _, cp, e⟩

theorem ShSg.only_below (h : ShSg G C T off base b w v1 v2 vb bks s) (k : Only (ShW b v1 v2 vb) w w') : Fr G base w w' :=
  fr_only k h.hbase (fun i hi => by
    rcases hi with q | q | q | q
    · rw [q]; exact h.lo
    · exact (h.pool.c.lt i q).1
    · exact (h.pool.p.lt i q).1
    · exact (h.books.row.lt i q).1) h.ng

/-- The row of books is written, one book's cells: a map of one's own may be the new one. -/
theorem ShSg.put {g n cap : Nat} (h : ShSg G C T off base b w v1 v2 (.slice (some ⟨g, 0, none⟩) n cap) bks s) (i j : Nat) (hi : i < bks.length) (hj : j < 5) (y : Bk) (u : Value) (hy : (bookC bks[i]).set j u = bookC y) (hm : w.ownsRow base 185 3 y.m y.rs.length (y.rs.flatMap runC)) :
    ShSg G C T off base b (w.setCell ⟨g, i * 5 + j, none⟩ u) v1 v2 (.slice (some ⟨g, 0, none⟩) n cap) (bks.set i y) ⟨s.cs, s.ps, s.bs.set i y.pb⟩ ∧ Fr G base w (w.setCell ⟨g, i * 5 + j, none⟩ u) := by
  have hg := h.books.row.lt g rfl
  have ub : Upto g w (w.setCell ⟨g, i * 5 + j, none⟩ u) := (Upto.refl _ _).setCell ⟨g, i * 5 + j, none⟩ (.inl rfl) _
  obtain ⟨cur, hcur⟩ : ∃ cur, w.heap[g]? = some (.cells cur 133 (0, 0)) := by
    rcases h.books.row.2 with ⟨e, _⟩ | ⟨g', cap', cur, e, _, hh, _⟩
    · simp at e
    · simp only [Value.slice.injEq, Option.some.injEq, Addr.mk.injEq, and_true] at e
      obtain ⟨rfl, _⟩ := e
      exact ⟨cur, hh⟩
  have st : ∀ (e : TypeId) (kk n : Nat) (v : Value) (xs : List Value), 133 ≠ e → w.ownsRow base e kk v n xs → (w.setCell ⟨g, i * 5 + j, none⟩ u).ownsRow base e kk v n xs := fun e kk n v xs he hr =>
    own_rng_not hr (fun q hq hqv => ub.block q hq (fun hx => own_not_box hr hcur he (by rw [← hx]; exact hqv)))
  refine ⟨⟨?_, h.hT, h.e0, h.e1, h.e2, h.lo, ⟨st _ _ _ _ _ (by decide) h.pool.c, st _ _ _ _ _ (by decide) h.pool.p, h.pool.apart⟩, ⟨own_put bookC_len h.books.row i j _ y u (List.getElem?_eq_getElem hi) hj hy, fun x hx => ?_⟩, ?_, h.ng, fun k hk => Nat.lt_of_lt_of_le (h.gl k hk) ub.size⟩, h.only_below ((Only.refl _ w).setCell ⟨g, i * 5 + j, none⟩ (.inr (.inr (.inr rfl))) _)⟩
  · exact (ub.block b h.lt (fun e => h.not_box hcur h.hT.b e.symm)).trans h.box
  · rcases List.mem_or_eq_of_mem_set hx with q | rfl
    · exact st _ _ _ _ _ (by decide) (h.books.maps x q)
    · exact st _ _ _ _ _ (by decide) hm
  · rw [← h.eq, List.map_set]

/-- A box of another type is written that is none of it. -/
theorem ShSg.beyond {n i : Nat} {cs : Array Value} {U : TypeId} (h : ShSg G C T off base b w v1 v2 vb bks s) (hk : w.heap[n]? = some (.cells cs U (0, 0))) (t1 : T ≠ U) (t2 : U ≠ 2) (t3 : U ≠ 133) (t4 : U ≠ 185) (u : Value) : ShSg G C T off base b (w.setCell ⟨n, i, none⟩ u) v1 v2 vb bks s :=
  ⟨(Below.heap_setCell w ⟨n, i, none⟩ u b (fun e => h.not_box hk t1 e.symm)).trans h.box, h.hT, h.e0, h.e1, h.e2, h.lo, ⟨own_box h.pool.c hk t2 i u, own_box h.pool.p hk t2 i u, h.pool.apart⟩, ⟨own_box h.books.row hk t3 i u, fun x hx => own_box (h.books.maps x hx) hk t4 i u⟩, h.eq, h.ng, fun k hk => by simpa [World.setCell] using h.gl k hk⟩

/-- A shelf in a box of its own. -/
theorem ShSt.g (h : ShSt base b w v1 v2 vb bks s) : ShSg (fun _ => False) #[v1, v2, vb] 28 0 base b w v1 v2 vb bks s :=
  ⟨h.box, holds_shelf, rfl, rfl, by simp, h.lo, h.pool, h.books, h.eq, fun _ _ q => q, fun _ q => q.elim⟩

theorem ShSg.st {x : Value} (h : ShSg G #[v1, v2, x] 28 0 base b w v1 v2 vb bks s) : ShSt base b w v1 v2 vb bks s := ⟨h.box, h.lo, h.pool, h.books, h.eq⟩
end Go.Proofs.YtibhepekmihagaaGreatDoor

namespace Go.Proofs.YtibhepekmihagaaGreatDoor
open Go.RowKit

set_option linter.unusedVariables false

set_option maxRecDepth 100000


/-- What l8Do leaves behind. -/
def DoPostG (G : Nat → Prop) (C : Array Value) (T : TypeId) (off base b : Nat) (v1 v2 : Value) (s : Sf) (o : Oq) (w : World) (e : Ending) (w' : World) : Prop :=
  ∃ (vb' : Value) (bks' : List Bk), e = .returned (.agg #[.int .i64 (doOp s o).2.1, .int .i64 (doOp s o).2.2]) ∧ ShSg G C T off base b w' v1 v2 vb' bks' (doOp s o).1 ∧ Fr G base w w'

theorem DoPostG.drew {G : Nat → Prop} {C : Array Value} {T : TypeId} {off base b : Nat} {v1 v2 : Value} {s : Sf} {o : Oq} {w w' : World} {e : Ending} (h : DoPostG G C T off base b v1 v2 s o w e w') : DoPostG G C T off base b v1 v2 s o w e w'.drew := by
  obtain ⟨vb, bks, h1, h2, h3⟩ := h
  exact ⟨vb, bks, h1, h2.below ((Below.refl _ _).drew), h3.drew⟩
end Go.Proofs.YtibhepekmihagaaGreatDoor

