/-
  Contracts and plain laws, one chapter behind the other.
-/
import Derived.Test.YtibhepekmihagaaGreatDoorM20
namespace Go.Proofs.YtibhepekmihagaaGreatDoor
open Go.ChangeShapes Go.WideShapes Go.ChangeAt Go.RowKit Go.Deep Go.Joins

set_option linter.unusedVariables false

set_option maxRecDepth 100000


structure Hw where
  up : Bool
  pg : Int
  ac : Int
  st : Rp
  lo : Option Addr
  lc : Nat
  o1 : Option Addr
  c1 : Nat
  o2 : Option Addr
  c2 : Nat
  o3 : Option Addr
  c3 : Nat
  o4 : Option Addr
  c4 : Nat
  o5 : Option Addr
  c5 : Nat

def Hw.zero : Hw := ⟨false, 0, 0, Rp.zero, none, 0, none, 0, none, 0, none, 0, none, 0, none, 0⟩

/-- All of a house but where it lies. -/
def Hw.pl (h : Hw) : Bool × Int × Int × Rp := (h.up, h.pg, h.ac, h.st)

/-- A house's nine cells. -/
def hwC (h : Hw) : List Value := [.bool h.up, .int .i64 h.pg, .slice h.lo 0 h.lc, .int .i64 h.ac, .slice h.o1 h.st.s.cs.length h.c1, .slice h.o2 h.st.s.ps.length h.c2, .slice h.o3 0 h.c3, .slice h.o4 h.st.ts.length h.c4, .slice h.o5 h.st.rs.length h.c5]

theorem hwC_len (h : Hw) : (hwC h).length = 9 := rfl

theorem hw_cells {B : Nat} {w : World} {o : Option Addr} {l : List Hw} (hc : ∀ i x, l[i]? = some x → ∃ g off, o = some ⟨g, off, none⟩ ∧ g < B ∧ ∀ j u, (hwC x)[j]? = some u → w.cell? ⟨g, off + i * 9 + j, none⟩ = some u) (i : Nat) (hi : i < l.length) :
    ∃ g off, o = some ⟨g, off, none⟩ ∧ g < B ∧ w.cell? ⟨g, off + i * 9, none⟩ = some (.bool l[i].up) ∧ w.cell? ⟨g, off + i * 9 + 1, none⟩ = some (.int .i64 l[i].pg) ∧ w.cell? ⟨g, off + i * 9 + 2, none⟩ = some (.slice l[i].lo 0 l[i].lc) ∧ w.cell? ⟨g, off + i * 9 + 3, none⟩ = some (.int .i64 l[i].ac) ∧ w.cell? ⟨g, off + i * 9 + 4, none⟩ = some (.slice l[i].o1 l[i].st.s.cs.length l[i].c1) ∧ w.cell? ⟨g, off + i * 9 + 5, none⟩ = some (.slice l[i].o2 l[i].st.s.ps.length l[i].c2) ∧ w.cell? ⟨g, off + i * 9 + 6, none⟩ = some (.slice l[i].o3 0 l[i].c3) ∧ w.cell? ⟨g, off + i * 9 + 7, none⟩ = some (.slice l[i].o4 l[i].st.ts.length l[i].c4) ∧ w.cell? ⟨g, off + i * 9 + 8, none⟩ = some (.slice l[i].o5 l[i].st.rs.length l[i].c5) := by
  obtain ⟨g, off, e, hg, h⟩ := hc i _ (List.getElem?_eq_getElem hi)
  exact ⟨g, off, e, hg, h 0 _ rfl, h 1 _ rfl, h 2 _ rfl, h 3 _ rfl, h 4 _ rfl, h 5 _ rfl, h 6 _ rfl, h 7 _ rfl, h 8 _ rfl⟩

theorem Tryz.infoHouse17 : (Tryz.prog.info? 33).map (fun i => (i.zero, i.size, i.bytes)) = some (some (.agg #[.bool false, .int .i64 0, .slice none 0 0, .int .i64 0, .slice none 0 0, .slice none 0 0, .slice none 0 0, .slice none 0 0, .slice none 0 0]), 9, 168) := by kernel_rfl

/-- make([]impl.House, n): a row of zero houses, at the end of memory. -/
theorem made_houses (n : Nat) (hn : n ≤ 1048576) : ∃ M : Array Value, (∀ W : World, (Instr.makeSlice 64 (.int .i64 (n : Int)) (.int .i64 (n : Int))).run Tryz.prog W = .ok (.slice (some ⟨W.heap.size, 0, none⟩) n n) (W.alloc (.cells M 33))) ∧
    ∀ (W : World) (base : Nat), base ≤ W.heap.size → (W.alloc (.cells M 33)).ownsRow base 33 9 (.slice (some ⟨W.heap.size, 0, none⟩) n n) (List.replicate n Hw.zero).length ((List.replicate n Hw.zero).flatMap hwC) := by
  obtain ⟨i0, hi, hz0, hz1, hz2⟩ := info_parts Tryz.infoHouse17
  have e := toList_made (cs := hwC) hwC_len (by omega) Hw.zero (Value.agg #[.bool false, .int .i64 0, .slice none 0 0, .int .i64 0, .slice none 0 0, .slice none 0 0, .slice none 0 0, .slice none 0 0, .slice none 0 0]).cells rfl n
  refine ⟨madeCells (Value.agg #[.bool false, .int .i64 0, .slice none 0 0, .int .i64 0, .slice none 0 0, .slice none 0 0, .slice none 0 0, .slice none 0 0, .slice none 0 0]).cells (n * 9), fun W => ?_, fun W base hb => ?_⟩
  · have h := run_make (P := Tryz.prog) W 64 33 i0 (.agg #[.bool false, .int .i64 0, .slice none 0 0, .int .i64 0, .slice none 0 0, .slice none 0 0, .slice none 0 0, .slice none 0 0, .slice none 0 0]) Tryz.underlying64 hi hz0 .i64 .i64 (n : Int) (n : Int) (by omega) (by omega) (by rw [hz2]; omega) (by omega)
    rw [hz1, Int.toNat_natCast] at h
    simpa using h
  · have h := World.ownsRow_lit (base := base) (size := 9) (e := 33) W (madeCells (Value.agg #[.bool false, .int .i64 0, .slice none 0 0, .int .i64 0, .slice none 0 0, .slice none 0 0, .slice none 0 0, .slice none 0 0, .slice none 0 0]).cells (n * 9)) n hb (by unfold maxLen; omega) (by rw [size_madeCells])
    rw [e] at h
    rwa [List.length_replicate]

theorem own_nineH {w : World} {base g n cap : Nat} {xs : List Hw} (h : w.ownsRow base 33 9 (.slice (some ⟨g, 0, none⟩) n cap) xs.length (xs.flatMap hwC)) (i : Nat) (hi : i < xs.length) :
    (w.cell? ⟨g, i * 9, none⟩ = some (.bool xs[i].up) ∧ w.cell? ⟨g, i * 9 + 1, none⟩ = some (.int .i64 xs[i].pg) ∧ w.cell? ⟨g, i * 9 + 2, none⟩ = some (.slice xs[i].lo 0 xs[i].lc) ∧ w.cell? ⟨g, i * 9 + 3, none⟩ = some (.int .i64 xs[i].ac) ∧ w.cell? ⟨g, i * 9 + 4, none⟩ = some (.slice xs[i].o1 xs[i].st.s.cs.length xs[i].c1) ∧ w.cell? ⟨g, i * 9 + 5, none⟩ = some (.slice xs[i].o2 xs[i].st.s.ps.length xs[i].c2) ∧ w.cell? ⟨g, i * 9 + 6, none⟩ = some (.slice xs[i].o3 0 xs[i].c3) ∧ w.cell? ⟨g, i * 9 + 7, none⟩ = some (.slice xs[i].o4 xs[i].st.ts.length xs[i].c4) ∧ w.cell? ⟨g, i * 9 + 8, none⟩ = some (.slice xs[i].o5 xs[i].st.rs.length xs[i].c5)) ∧ w.frozen? ⟨g, i * 9, none⟩ = false ∧ w.frozen? ⟨g, i * 9 + 1, none⟩ = false ∧ w.frozen? ⟨g, i * 9 + 2, none⟩ = false ∧ w.frozen? ⟨g, i * 9 + 3, none⟩ = false ∧ w.frozen? ⟨g, i * 9 + 4, none⟩ = false ∧ w.frozen? ⟨g, i * 9 + 5, none⟩ = false ∧ w.frozen? ⟨g, i * 9 + 6, none⟩ = false ∧ w.frozen? ⟨g, i * 9 + 7, none⟩ = false ∧ w.frozen? ⟨g, i * 9 + 8, none⟩ = false := by
  obtain ⟨a0, b0⟩ := own_cell hwC_len h i 0 _ (List.getElem?_eq_getElem hi) (by omega)
  obtain ⟨a1, b1⟩ := own_cell hwC_len h i 1 _ (List.getElem?_eq_getElem hi) (by omega)
  obtain ⟨a2, b2⟩ := own_cell hwC_len h i 2 _ (List.getElem?_eq_getElem hi) (by omega)
  obtain ⟨a3, b3⟩ := own_cell hwC_len h i 3 _ (List.getElem?_eq_getElem hi) (by omega)
  obtain ⟨a4, b4⟩ := own_cell hwC_len h i 4 _ (List.getElem?_eq_getElem hi) (by omega)
  obtain ⟨a5, b5⟩ := own_cell hwC_len h i 5 _ (List.getElem?_eq_getElem hi) (by omega)
  obtain ⟨a6, b6⟩ := own_cell hwC_len h i 6 _ (List.getElem?_eq_getElem hi) (by omega)
  obtain ⟨a7, b7⟩ := own_cell hwC_len h i 7 _ (List.getElem?_eq_getElem hi) (by omega)
  obtain ⟨a8, b8⟩ := own_cell hwC_len h i 8 _ (List.getElem?_eq_getElem hi) (by omega)
  exact ⟨⟨a0, a1, a2, a3, a4, a5, a6, a7, a8⟩, b0, b1, b2, b3, b4, b5, b6, b7, b8⟩

/-- A house's rows, in memory of their own. -/
def Hw.Own (h : Hw) (base : Nat) (w : World) : Prop := OwnH0 base w h.st h.lo h.lc h.o1 h.c1 h.o2 h.c2 h.o3 h.c3 h.o4 h.c4 h.o5 h.c5

/-- The blocks of a house's rows. -/
def Hw.In (h : Hw) (i : Nat) : Prop := (Value.slice h.lo 0 h.lc).ownBlock = some i ∨ InH0 (.slice h.o1 h.st.s.cs.length h.c1) (.slice h.o2 h.st.s.ps.length h.c2) (.slice h.o3 0 h.c3) (.slice h.o4 h.st.ts.length h.c4) (.slice h.o5 h.st.rs.length h.c5) i

/-- The pool's rows aren't the memo's tags. -/
def Hw.Ap (h : Hw) : Prop := ∀ g, ((Value.slice h.o1 h.st.s.cs.length h.c1).ownBlock = some g ∨ (Value.slice h.o2 h.st.s.ps.length h.c2).ownBlock = some g) → (Value.slice h.o4 h.st.ts.length h.c4).ownBlock ≠ some g

def Hw.Rd (h : Hw) (B : Nat) (w : World) : Prop := RH0 B w h.st h.lo h.lc h.o1 h.c1 h.o2 h.c2 h.o3 h.c3 h.o4 h.c4 h.o5 h.c5

theorem Hw.Own.below {h : Hw} {base : Nat} {w w' : World} (o : h.Own base w) (d : Below w.heap.size w w') : h.Own base w' := OwnH0.below o d

theorem Hw.Own.mono {h : Hw} {base base' : Nat} {w : World} (o : h.Own base w) (d : base' ≤ base) : h.Own base' w := OwnH0.mono o d

theorem Hw.Own.reads {h : Hw} {base : Nat} {w : World} (o : h.Own base w) : h.Rd w.heap.size w := OwnH0.reads o

theorem Hw.Own.zero (base : Nat) (w : World) : Hw.zero.Own base w := OwnH0.zero base w

theorem Hw.Rd.below {h : Hw} {B : Nat} {w w' : World} (o : h.Rd B w) (d : Below B w w') : h.Rd B w' := RH0.below o d

theorem Hw.Rd.mono {h : Hw} {B B' : Nat} {w : World} (o : h.Rd B w) (d : B ≤ B') : h.Rd B' w := RH0.mono o d

theorem Hw.Rd.of {h : Hw} {B : Nat} {W : World} (o : h.Rd B W) (y : B ≤ W.heap.size) (p : BelowOf W) : h.Rd p.w'.heap.size p.w' := ((o.mono y).below p.h).mono p.h.size

theorem Hw.Own.span {h : Hw} {base : Nat} {w : World} (o : h.Own base w) : ∀ i, h.In i → base ≤ i ∧ i < w.heap.size := by
  rintro i (e | e)
  · exact o.log.lt i e
  · exact OwnH0.span o i e

theorem Hw.zero_in (i : Nat) : ¬ Hw.zero.In i := by
  rintro (e | (e | e | e | ⟨b, hb, -⟩) | e | e)
  · cases e
  · cases e
  · cases e
  · cases e
  · cases hb
  · cases e
  · cases e

theorem Hw.Own.only {h : Hw} {base : Nat} {w w' : World} {S : Nat → Prop} (o : h.Own base w) (on : Only S w w') (hS : ∀ i, h.In i → ¬ S i) : h.Own base w' :=
  ⟨own_only o.log on (fun g e => hS g (.inl e)), ⟨⟨own_only o.sh.p.c on (fun g e => hS g (.inr (.inl (.inl e)))), own_only o.sh.p.p on (fun g e => hS g (.inr (.inl (.inr (.inl e))))), o.sh.p.apart⟩, ⟨own_only o.sh.b.row on (fun g e => hS g (.inr (.inl (.inr (.inr (.inl e)))))), fun b hb => by cases hb⟩, o.sh.a⟩, ⟨own_only o.mm.t on (fun g e => hS g (.inr (.inr (.inl e)))), own_only o.mm.r on (fun g e => hS g (.inr (.inr (.inr e))))⟩⟩

/-- The row of the houses is none of a house's rows. -/
theorem Hw.Own.notRow {h : Hw} {base base' k n : Nat} {w : World} {v : Value} {xs : List Value} {T : TypeId} (o : h.Own base w) (r : w.ownsRow base' T k v n xs) (h1 : 91 ≠ T := by decide) (h2 : 2 ≠ T := by decide) (h3 : 133 ≠ T := by decide) (h4 : 126 ≠ T := by decide) : ∀ i, h.In i → v.ownBlock ≠ some i := by
  rintro i (e | (e | e | e | ⟨b, hb, -⟩) | e | e) hv
  · exact rows_two o.log r h1 i e hv
  · exact rows_two o.sh.p.c r h2 i e hv
  · exact rows_two o.sh.p.p r h2 i e hv
  · exact rows_two o.sh.b.row r h3 i e hv
  · cases hb
  · exact rows_two o.mm.t r h2 i e hv
  · exact rows_two o.mm.r r h4 i e hv

/-- A box of another type is none of a house's rows. -/
theorem Hw.Own.notBox {h : Hw} {base c : Nat} {w : World} {zs : Array Value} {T : TypeId} (o : h.Own base w) (k : w.heap[c]? = some (.cells zs T (0, 0))) (h1 : T ≠ 91 := by decide) (h2 : T ≠ 2 := by decide) (h3 : T ≠ 133 := by decide) (h4 : T ≠ 126 := by decide) : ¬ h.In c := by
  rintro (e | (e | e | e | ⟨b, hb, -⟩) | e | e)
  · exact own_not_box o.log k h1 e
  · exact own_not_box o.sh.p.c k h2 e
  · exact own_not_box o.sh.p.p k h2 e
  · exact own_not_box o.sh.b.row k h3 e
  · cases hb
  · exact own_not_box o.mm.t k h2 e
  · exact own_not_box o.mm.r k h4 e

/-- A row of houses that is read. -/
structure ReadsH (B : Nat) (w : World) (v : Value) (hs : List Hw) : Prop where
  row : ReadsR 9 hwC B w v hs
  rd : ∀ h ∈ hs, h.Rd B w

theorem ReadsH.below {B : Nat} {w w' : World} {v : Value} {hs : List Hw} (h : ReadsH B w v hs) (k : Below B w w') : ReadsH B w' v hs := ⟨h.row.below k, fun b hb => (h.rd b hb).below k⟩

theorem ReadsH.mono {B B' : Nat} {w : World} {v : Value} {hs : List Hw} (h : ReadsH B w v hs) (k : B ≤ B') : ReadsH B' w v hs := ⟨h.row.mono k, fun b hb => (h.rd b hb).mono k⟩

def ApartH (hs : List Hw) : Prop := hs.Pairwise (fun a b => ∀ i, a.In i → ¬ b.In i)

/-- A row of houses of one's own. -/
structure OwnHs (base : Nat) (w : World) (v : Value) (hs : List Hw) : Prop where
  row : w.ownsRow base 33 9 v hs.length (hs.flatMap hwC)
  own : ∀ h ∈ hs, h.Own base w
  ap : ∀ h ∈ hs, h.Ap
  apart : ApartH hs

theorem OwnHs.below {base : Nat} {w w' : World} {v : Value} {hs : List Hw} (h : OwnHs base w v hs) (d : Below w.heap.size w w') : OwnHs base w' v hs := ⟨owns_below h.row d, fun x hx => (h.own x hx).below d, h.ap, h.apart⟩

theorem OwnHs.mono {base base' : Nat} {w : World} {v : Value} {hs : List Hw} (h : OwnHs base w v hs) (d : base' ≤ base) : OwnHs base' w v hs := ⟨owns_mono h.row d, fun x hx => (h.own x hx).mono d, h.ap, h.apart⟩

theorem OwnHs.reads {base : Nat} {w : World} {v : Value} {hs : List Hw} (h : OwnHs base w v hs) : ReadsH w.heap.size w v hs := ⟨ReadsR.of_own hwC_len h.row, fun x hx => (h.own x hx).reads⟩

theorem OwnHs.nil (base : Nat) (w : World) : OwnHs base w (.slice none 0 0) [] := ⟨owns_nil _ _ _ _, (fun x hx => by cases hx), (fun x hx => by cases hx), List.Pairwise.nil⟩

set_option maxHeartbeats 3200000 in
theorem eqHouses_same (v v' : Value) (bs ms : List Hw) (w : World) (hp : ms.map Hw.pl = bs.map Hw.pl) (h0 : ∀ h ∈ bs, h.ac = 0) (r : ReadsH w.heap.size w v bs) (r' : ReadsH w.heap.size w v' ms) :
    Calls Tryz.prog 69 #[v, v'] w fun e w' => e = .returned (.bool true) ∧ Below w.heap.size w w' := by
  have RM : Hid _ := r.rd
  have RM' : Hid _ := r'.rd
  have H0 : Hid _ := h0
  have hl : ms.length = bs.length := by simpa using congrArg List.length hp
  have HP : Hid _ := hp
  obtain ⟨p1, cap1, rfl, m1, d1, -⟩ := r.row
  obtain ⟨p2, cap2, rfl, m2, d2, -⟩ := r'.row
  have C1 : Hid _ := hw_cells d1
  have C2 : Hid _ := hw_cells d2
  have HL : Hid (ms.length = bs.length) := hl
  rw [hl]
  unfold maxLen at m1
  clear d1 d2 m2 r r' hp hl h0
  go_enter Tryz.func69, Tryz.ntmps69
  go_wp2
  go_loopw [5] (fun i wr => ∃ k : Nat, k ≤ bs.length ∧ i = .int .i64 k ∧ Below w.heap.size w wr) (fun i _ => bs.length - (intOf i).toNat)
  case atStart => exact ⟨0, Nat.zero_le _, rfl, Below.refl _ _⟩
  case round =>
    obtain ⟨k, hk, rfl, hb⟩ := hrel
    by_cases hlt : k < bs.length
    · have hlt2 : k < ms.length := by have := HL.out; omega
      obtain ⟨g1, of1, rfl, q1, a0, a1, a2, a3, a4, a5, a6, a7, a8⟩ := C1.out k hlt
      obtain ⟨g2, of2, rfl, q2, b0, b1, b2, b3, b4, b5, b6, b7, b8⟩ := C2.out k hlt2
      have rm := (RM.out bs[k] (List.getElem_mem hlt)).below hb
      have rm' := (RM'.out ms[k] (List.getElem_mem hlt2)).below hb
      have hac := H0.out bs[k] (List.getElem_mem hlt)
      have hpk : ms[k].pl = bs[k].pl := by
        have e : (ms.map Hw.pl)[k]? = (bs.map Hw.pl)[k]? := by rw [HP.out]
        simpa [hlt, hlt2] using e
      generalize bs[k] = x at a0 a1 a2 a3 a4 a5 a6 a7 a8 rm hpk hac
      generalize ms[k] = y at b0 b1 b2 b3 b4 b5 b6 b7 b8 rm' hpk
      obtain ⟨upa, pga, aca, sta, loa, lca, o1a, c1a, o2a, c2a, o3a, c3a, o4a, c4a, o5a, c5a⟩ := x
      obtain ⟨upb, pgb, acb, stb, lob, lcb, o1b, c1b, o2b, c2b, o3b, c3b, o4b, c4b, o5b, c5b⟩ := y
      simp only [Hw.pl, Prod.mk.injEq] at a0 a1 a2 a3 a4 a5 a6 a7 a8 b0 b1 b2 b3 b4 b5 b6 b7 b8 hpk hac
      obtain ⟨rfl, rfl, rfl, rfl⟩ := hpk
      subst hac
      have hne := BelowOf.any wr
      have l1 : g1 < wr.heap.size := Nat.lt_of_lt_of_le q1 hb.size
      have l2 : g2 < wr.heap.size := Nat.lt_of_lt_of_le q2 hb.size
      have HEQ : ∀ q : BelowOf wr, Calls Tryz.prog 9 #[.agg #[.bool upb, .int .i64 pgb, .slice loa 0 lca, .int .i64 0, .slice o1a stb.s.cs.length c1a, .slice o2a stb.s.ps.length c2a, .slice o3a 0 c3a, .slice o4a stb.ts.length c4a, .slice o5a stb.rs.length c5a], .agg #[.bool upb, .int .i64 pgb, .slice lob 0 lcb, .int .i64 0, .slice o1b stb.s.cs.length c1b, .slice o2b stb.s.ps.length c2b, .slice o3b 0 c3b, .slice o4b stb.ts.length c4b, .slice o5b stb.rs.length c5b]] q.w' fun e w' => e = .returned (.bool true) ∧ Below q.w'.heap.size q.w' w' := fun q => eqHouse0_same upb pgb stb loa lca o1a c1a o2a c2a o3a c3a o4a c4a o5a c5a lob lcb o1b c1b o2b c2b o3b c3b o4b c4b o5b c5b q.w' (Hw.Rd.of rm hb.size q) (Hw.Rd.of rm' hb.size q)
      have d0 := BelowOf.cell ((hb.cell (p := ⟨g1, of1 + k * 9, none⟩) q1).trans a0) l1
      have f0 := BelowOf.cell ((hb.cell (p := ⟨g2, of2 + k * 9, none⟩) q2).trans b0) l2
      have d1 := BelowOf.cell ((hb.cell (p := ⟨g1, of1 + k * 9 + 1, none⟩) q1).trans a1) l1
      have f1 := BelowOf.cell ((hb.cell (p := ⟨g2, of2 + k * 9 + 1, none⟩) q2).trans b1) l2
      have d2 := BelowOf.cell ((hb.cell (p := ⟨g1, of1 + k * 9 + 2, none⟩) q1).trans a2) l1
      have f2 := BelowOf.cell ((hb.cell (p := ⟨g2, of2 + k * 9 + 2, none⟩) q2).trans b2) l2
      have d3 := BelowOf.cell ((hb.cell (p := ⟨g1, of1 + k * 9 + 3, none⟩) q1).trans a3) l1
      have f3 := BelowOf.cell ((hb.cell (p := ⟨g2, of2 + k * 9 + 3, none⟩) q2).trans b3) l2
      have d4 := BelowOf.cell ((hb.cell (p := ⟨g1, of1 + k * 9 + 4, none⟩) q1).trans a4) l1
      have f4 := BelowOf.cell ((hb.cell (p := ⟨g2, of2 + k * 9 + 4, none⟩) q2).trans b4) l2
      have d5 := BelowOf.cell ((hb.cell (p := ⟨g1, of1 + k * 9 + 5, none⟩) q1).trans a5) l1
      have f5 := BelowOf.cell ((hb.cell (p := ⟨g2, of2 + k * 9 + 5, none⟩) q2).trans b5) l2
      have d6 := BelowOf.cell ((hb.cell (p := ⟨g1, of1 + k * 9 + 6, none⟩) q1).trans a6) l1
      have f6 := BelowOf.cell ((hb.cell (p := ⟨g2, of2 + k * 9 + 6, none⟩) q2).trans b6) l2
      have d7 := BelowOf.cell ((hb.cell (p := ⟨g1, of1 + k * 9 + 7, none⟩) q1).trans a7) l1
      have f7 := BelowOf.cell ((hb.cell (p := ⟨g2, of2 + k * 9 + 7, none⟩) q2).trans b7) l2
      have d8 := BelowOf.cell ((hb.cell (p := ⟨g1, of1 + k * 9 + 8, none⟩) q1).trans a8) l1
      have f8 := BelowOf.cell ((hb.cell (p := ⟨g2, of2 + k * 9 + 8, none⟩) q2).trans b8) l2
      have g1' : (0 : Int) ≤ (k : Int) := by omega
      have g2' : (k : Int) < (bs.length : Int) := by omega
      clear a0 a1 a2 a3 a4 a5 a6 a7 a8 b0 b1 b2 b3 b4 b5 b6 b7 b8 C1 C2 RM RM' rm rm' HP H0
      go_wp2_with fail
      refine wp_region_of (by kernel_rfl) (by kernel_rfl) ?_
      repeat (go_big_quiet_step ((first | (go_at_call 9; exact calls_of (HEQ _)) | rfl)))
      refine wpQuiet_nil ?_
      intro w5 hw5
      obtain ⟨⟨wx, cx⟩, hwx⟩ := hw5
      have b5 : Below wr.heap.size wr w5 := by rw [hwx]; exact cx
      have hb5 := hb.trans (b5.mono hb.size)
      clear hwx cx wx hne d0 d1 d2 d3 d4 d5 d6 d7 d8 f0 f1 f2 f3 f4 f5 f6 f7 f8 HEQ
      go_wp2_with fail
      go_roundw
      case rel => exact ⟨k + 1, by omega, by go_num, hb5⟩
      case measure => simp [intOf]; omega
    · go_wp2
      go_ret
      exact ⟨rfl, hb⟩
end Go.Proofs.YtibhepekmihagaaGreatDoor

