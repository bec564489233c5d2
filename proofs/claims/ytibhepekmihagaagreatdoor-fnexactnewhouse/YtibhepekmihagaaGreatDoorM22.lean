/-
  Contracts and plain laws, one chapter behind the other.
-/
import Derived.Test.YtibhepekmihagaaGreatDoorM21
namespace Go.Proofs.YtibhepekmihagaaGreatDoor
open Go.RowKit

set_option linter.unusedVariables false


theorem markBooks_nil (o : Option Addr) (c : Nat) (k : Int) (w : World) : Calls Tryz.prog 50 #[.slice o 0 c, .int .i64 k] w fun e w' => e = .returned (.int .i64 k) ∧ w' = w := by
  go_enter Tryz.func50, Tryz.ntmps50
  go_wp2_with fail
  refine wp_loop_rounds 1 ?_
  rw [rounds_succ]
  go_wp2_with fail
  go_ret
  exact ⟨rfl, rfl⟩

theorem heldBooks_nil (o : Option Addr) (c : Nat) (k : Int) (w : World) : Calls Tryz.prog 54 #[.slice o 0 c, .int .i64 k] w fun e w' => e = .returned (.int .i64 k) ∧ w' = w := by
  go_enter Tryz.func54, Tryz.ntmps54
  go_wp2_with fail
  refine wp_loop_rounds 1 ?_
  rw [rounds_succ]
  go_wp2_with fail
  go_ret
  exact ⟨rfl, rfl⟩

/-! ### Plain -/
def markHw (k : Int) (h : Hw) : Hw := { h with up := k % 3 == 0, pg := k + 1, ac := k + 1 + 1 }

def markHN (k : Int) (h : Hw) : Int := k + 1 + 1 + 1 + h.st.s.cs.length + h.st.s.ps.length + h.st.ts.length + 2 * h.st.rs.length

def marksHw (k : Int) : List Hw → List Hw
  | [] => []
  | b :: t => markHw k b :: marksHw (markHN k b) t

def marksHE (k : Int) : List Hw → Int
  | [] => k
  | b :: t => marksHE (markHN k b) t

theorem markHN_ge (k : Int) (b : Hw) : k ≤ markHN k b := by unfold markHN; omega

theorem marksHE_ge (bs : List Hw) : ∀ k : Int, k ≤ marksHE k bs := by
  induction bs with
  | nil => intro k; exact Int.le_refl _
  | cons b t ih => intro k; exact Int.le_trans (markHN_ge k b) (ih (markHN k b))

theorem marksHE_append (xs ys : List Hw) : ∀ k : Int, marksHE k (xs ++ ys) = marksHE (marksHE k xs) ys := by
  induction xs with
  | nil => intro k; rfl
  | cons b t ih => intro k; exact ih _

theorem marksHw_append (xs ys : List Hw) : ∀ k : Int, marksHw k (xs ++ ys) = marksHw k xs ++ marksHw (marksHE k xs) ys := by
  induction xs with
  | nil => intro k; rfl
  | cons b t ih => intro k; simp only [List.cons_append, marksHw, marksHE, ih]

theorem marksHw_length (bs : List Hw) : ∀ k : Int, (marksHw k bs).length = bs.length := by
  induction bs with
  | nil => intro k; rfl
  | cons b t ih => intro k; simp [marksHw, ih]

theorem marksHE_take (bs : List Hw) (k : Int) (j : Nat) (hj : j < bs.length) : marksHE k (bs.take (j + 1)) = markHN (marksHE k (bs.take j)) bs[j] := by
  rw [List.take_succ_eq_append_getElem hj, marksHE_append]; rfl

theorem marksHw_take (bs : List Hw) (k : Int) (j : Nat) (hj : j < bs.length) : marksHw k (bs.take (j + 1)) = marksHw k (bs.take j) ++ [markHw (marksHE k (bs.take j)) bs[j]] := by
  rw [List.take_succ_eq_append_getElem hj, marksHw_append]; rfl

theorem marksHE_le (bs : List Hw) (k : Int) (j : Nat) : marksHE k (bs.take j) ≤ marksHE k bs := by
  have h := marksHE_ge (bs.drop j) (marksHE k (bs.take j))
  rwa [← marksHE_append, List.take_append_drop] at h

theorem marksHE_len (bs : List Hw) : ∀ k : Int, k + 3 * bs.length ≤ marksHE k bs := by
  induction bs with
  | nil => intro k; exact Int.le_of_eq (by simp [marksHE])
  | cons b t ih => intro k; have h := ih (markHN k b); have h2 : k + 3 ≤ markHN k b := by unfold markHN; omega
                   rw [marksHE, List.length_cons]; omega

/-- A house whose rows are marked from k on. -/
def Hw.OwnM (h : Hw) (base : Nat) (w : World) (k : Int) : Prop := OwnHM base w h.st k h.lo h.lc h.o1 h.c1 h.o2 h.c2 h.o3 h.c3 h.o4 h.c4 h.o5 h.c5

theorem Hw.OwnM.below {h : Hw} {base : Nat} {w w' : World} {k : Int} (o : h.OwnM base w k) (d : Below w.heap.size w w') : h.OwnM base w' k := OwnHM.below o d

theorem Hw.OwnM.only {h : Hw} {base : Nat} {w w' : World} {k : Int} {S : Nat → Prop} (o : h.OwnM base w k) (on : Only S w w') (hS : ∀ i, h.In i → ¬ S i) : h.OwnM base w' k :=
  ⟨own_only o.log on (fun g e => hS g (.inl e)), ⟨⟨own_only o.sh.p.c on (fun g e => hS g (.inr (.inl (.inl e)))), own_only o.sh.p.p on (fun g e => hS g (.inr (.inl (.inr (.inl e))))), o.sh.p.apart⟩, ⟨own_only o.sh.b.row on (fun g e => hS g (.inr (.inl (.inr (.inr (.inl e)))))), fun b hb => by cases hb⟩, o.sh.a⟩, ⟨own_only o.mm.t on (fun g e => hS g (.inr (.inr (.inl e)))), own_only o.mm.r on (fun g e => hS g (.inr (.inr (.inr e))))⟩⟩

theorem Hw.OwnM.notRow {h : Hw} {base base' k n : Nat} {w : World} {q : Int} {v : Value} {xs : List Value} {T : TypeId} (o : h.OwnM base w q) (r : w.ownsRow base' T k v n xs) (h1 : 91 ≠ T := by decide) (h2 : 2 ≠ T := by decide) (h3 : 133 ≠ T := by decide) (h4 : 126 ≠ T := by decide) : ∀ i, h.In i → v.ownBlock ≠ some i := by
  rintro i (e | (e | e | e | ⟨b, hb, -⟩) | e | e) hv
  · exact rows_two o.log r h1 i e hv
  · exact rows_two o.sh.p.c r h2 i e hv
  · exact rows_two o.sh.p.p r h2 i e hv
  · exact rows_two o.sh.b.row r h3 i e hv
  · cases hb
  · exact rows_two o.mm.t r h2 i e hv
  · exact rows_two o.mm.r r h4 i e hv

/-- A row of houses, marked from k on. -/
structure OwnHMs (base : Nat) (w : World) (v : Value) (hs : List Hw) (k : Int) : Prop where
  row : w.ownsRow base 33 9 v (marksHw k hs).length ((marksHw k hs).flatMap hwC)
  own : ∀ i (hi : i < hs.length), hs[i].OwnM base w (marksHE k (hs.take i) + 1 + 1 + 1)

theorem OwnHMs.below {base : Nat} {w w' : World} {v : Value} {hs : List Hw} {k : Int} (h : OwnHMs base w v hs k) (d : Below w.heap.size w w') : OwnHMs base w' v hs k := ⟨owns_below h.row d, fun i hi => (h.own i hi).below d⟩

/-- What marking a row of houses turns. -/
def InHs (v : Value) (hs : List Hw) (i : Nat) : Prop := v.ownBlock = some i ∨ ∃ h ∈ hs, h.In i

theorem only_of {v : Value} {base : Nat} {w w' : World} (b : Below base w w') (z : w.heap.size ≤ w'.heap.size) (f : ∀ i, i < w.heap.size → v.ownBlock ≠ some i → w'.heap[i]? = w.heap[i]?) : Only (fun i => v.ownBlock = some i) w w' := ⟨b.os, b.tape, b.output, z, fun i hi hc => f i hi hc⟩

/-- The head of a house's round: its first two cells. -/
theorem hw_two {w : World} {base g n cap : Nat} {xs : List Hw} (h : w.ownsRow base 33 9 (.slice (some ⟨g, 0, none⟩) n cap) xs.length (xs.flatMap hwC)) (i : Nat) (hi : i < xs.length) (x : Hw) (hx : xs[i]? = some x) (b : Bool) (p : Int) :
    ((w.setCell ⟨g, i * 9, none⟩ (.bool b)).setCell ⟨g, i * 9 + 1, none⟩ (.int .i64 p)).ownsRow base 33 9 (.slice (some ⟨g, 0, none⟩) n cap) (xs.set i { x with up := b, pg := p }).length ((xs.set i { x with up := b, pg := p }).flatMap hwC) := by
  have h0 := own_put hwC_len h i 0 x { x with up := b } (.bool b) hx (by omega) rfl
  have h1 := own_put hwC_len h0 i 1 { x with up := b } { x with up := b, pg := p } (.int .i64 p) (by simp [hi]) (by omega) rfl
  rw [List.set_set] at h1
  exact h1

set_option maxRecDepth 100000 in
set_option maxHeartbeats 6400000 in
theorem markedHs_any (g cap n base : Nat) (k : Int) (hs : List Hw) (w : World) (hk : 0 ≤ k) (hk2 : marksHE k hs ≤ 1048576) (hn : hs.length = n) (hz : ∀ h ∈ hs, h.st.s.cs.length ≤ 1048576 ∧ h.st.s.ps.length ≤ 1048576 ∧ h.st.ts.length ≤ 1048576 ∧ h.st.rs.length ≤ 1048576) (own : OwnHs base w (.slice (some ⟨g, 0, none⟩) n cap) hs) (hbase : base ≤ w.heap.size) :
    Calls Tryz.prog 74 #[.slice (some ⟨g, 0, none⟩) n cap, .int .i64 k] w fun e w' => e = .returned (.int .i64 (marksHE k hs)) ∧ OwnHMs base w' (.slice (some ⟨g, 0, none⟩) n cap) hs k ∧ Only (InHs (.slice (some ⟨g, 0, none⟩) n cap) hs) w w' := by
  have HN : Hid (hs.length = n) := hn
  have HZ : Hid _ := hz
  have HA : Hid _ := own.apart
  have HAP : Hid _ := own.ap
  have HG : Hid (∀ j : Nat, k ≤ marksHE k (hs.take j) ∧ marksHE k (hs.take j) ≤ 1048576) := fun j => ⟨marksHE_ge _ _, Int.le_trans (marksHE_le hs k j) hk2⟩
  have hn1 : n ≤ hs.length := by omega
  have hnB : n ≤ 1048576 := by have := marksHE_len hs k; omega
  clear hn hz hk2
  go_enter Tryz.func74, Tryz.ntmps74
  go_wp2_with fail
  go_loopw [1, 5] (fun q i wr => ∃ (j : Nat), j ≤ n ∧ i = .int .i64 j ∧ q = .int .i64 (marksHE k (hs.take j)) ∧ wr.ownsRow base 33 9 (.slice (some ⟨g, 0, none⟩) n cap) (marksHw k (hs.take j) ++ hs.drop j).length ((marksHw k (hs.take j) ++ hs.drop j).flatMap hwC) ∧ (∀ i (hi : i < hs.length), i < j → hs[i].OwnM base wr (marksHE k (hs.take i) + 1 + 1 + 1)) ∧ (∀ i (hi : i < hs.length), j ≤ i → hs[i].Own base wr) ∧ Only (InHs (.slice (some ⟨g, 0, none⟩) n cap) hs) w wr ∧ base ≤ wr.heap.size) (fun _ i _ => n - (intOf i).toNat)
  case atStart => exact ⟨0, Nat.zero_le _, rfl, rfl, by simpa [marksHw] using own.row, fun i hi h => absurd h (Nat.not_lt_zero _), fun i hi _ => own.own _ (List.getElem_mem hi), Only.refl _ _, hbase⟩
  case round =>
    obtain ⟨j, hj, rfl, rfl, ow, oM, oO, on, hbs⟩ := hrel
    clear own
    by_cases hlt : j < n
    · have hlt2 : j < hs.length := by omega
      have hks := HG.out j
      have hks1 := HG.out (j + 1)
      rw [marksHE_take hs k j hlt2] at hks1
      have HT : Hid _ := And.intro (marksHE_take hs k j hlt2) (marksHw_take hs k j hlt2)
      have hml : (marksHw k (hs.take j)).length = j := by rw [marksHw_length, List.length_take]; omega
      have hxl : (marksHw k (hs.take j) ++ hs.drop j).length = hs.length := by rw [List.length_append, hml, List.length_drop]; omega
      have hxj : (marksHw k (hs.take j) ++ hs.drop j)[j]? = some hs[j] := by
        rw [List.getElem?_append_right (by omega), hml, Nat.sub_self, List.getElem?_drop, Nat.add_zero, List.getElem?_eq_getElem hlt2]
      have hst : ∀ y : Hw, (marksHw k (hs.take j) ++ hs.drop j).set j y = (marksHw k (hs.take j) ++ [y]) ++ hs.drop (j + 1) := fun y => by
        rw [List.set_append_right _ _ (by omega), hml, Nat.sub_self, List.drop_eq_getElem_cons hlt2, List.set_cons_zero, List.append_assoc]
        rfl
      have HST : Hid _ := hst
      have hox := oO j hlt2 (Nat.le_refl _)
      have hzx := HZ.out hs[j] (List.getElem_mem hlt2)
      have hapx := HAP.out hs[j] (List.getElem_mem hlt2)
      have HIN : Hid (∀ i, hs[j].In i → InHs (.slice (some ⟨g, 0, none⟩) n cap) hs i) := fun i h => .inr ⟨hs[j], List.getElem_mem hlt2, h⟩
      have HOT : Hid (∀ (i : Nat) (hi : i < hs.length), i ≠ j → ∀ q, hs[i].In q → ¬ hs[j].In q) := fun i hi hne q h1 h2 => by
        rcases Nat.lt_or_ge i j with y | y
        · exact List.pairwise_iff_getElem.1 HA.out i j hi hlt2 y q h1 h2
        · exact List.pairwise_iff_getElem.1 HA.out j i hlt2 hi (by omega) q h2 h1
      obtain ⟨x, hx⟩ : ∃ x, hs[j] = x := ⟨_, rfl⟩
      have HX : Hid (hs[j] = x) := hx
      rw [hx] at hxj hox hzx hapx HIN HOT HT hks1
      obtain ⟨kk, hkk⟩ : ∃ kk, marksHE k (hs.take j) = kk := ⟨_, rfl⟩
      have HK : Hid (marksHE k (hs.take j) = kk) := hkk
      rw [hkk] at hks hks1 HT
      rw [hkk]
      clear hkk
      obtain ⟨xs, hxs⟩ : ∃ xs, marksHw k (hs.take j) ++ hs.drop j = xs := ⟨_, rfl⟩
      rw [hxs] at ow hxj HST hxl
      have hjx : j < xs.length := by omega
      obtain ⟨⟨t0, t1, -⟩, f0, f1, -⟩ := own_nineH ow j hjx
      have ow2 := hw_two ow j hjx x hxj (kk % 3 == 0) (kk + 1)
      have hj2 : j < (xs.set j { x with up := kk % 3 == 0, pg := kk + 1 }).length := by rw [List.length_set]; exact hjx
      have hx2 : (xs.set j { x with up := kk % 3 == 0, pg := kk + 1 })[j]? = some { x with up := kk % 3 == 0, pg := kk + 1 } := by simp [hjx]
      have ow3 := own_put hwC_len ow2 j 3 { x with up := kk % 3 == 0, pg := kk + 1 } (markHw kk x) (.int .i64 (kk + 1 + 1)) hx2 (by omega) rfl
      rw [List.set_set] at ow3
      obtain ⟨⟨-, -, t2, t3, -⟩, -, -, -, f3, -⟩ := own_nineH ow2 j hj2
      simp only [List.getElem_set_self] at t2 t3
      have u3 : Upto g wr (((wr.setCell ⟨g, j * 9, none⟩ (.bool (kk % 3 == 0))).setCell ⟨g, j * 9 + 1, none⟩ (.int .i64 (kk + 1))).setCell ⟨g, j * 9 + 3, none⟩ (.int .i64 (kk + 1 + 1))) := (((Upto.refl _ _).setCell ⟨g, j * 9, none⟩ (.inl rfl) _).setCell ⟨g, j * 9 + 1, none⟩ (.inl rfl) _).setCell ⟨g, j * 9 + 3, none⟩ (.inl rfl) _
      have hox3 := hox.only (onlyUp u3) (fun i hi e => hox.notRow ow (by decide) (by decide) (by decide) (by decide) i hi (by rw [e]; rfl))
      have oM3 := fun i hi hij => (oM i hi hij).only (onlyUp u3) (fun q hq e => (oM i hi hij).notRow ow (by decide) (by decide) (by decide) (by decide) q hq (by rw [e]; rfl))
      have oO3 := fun i hi hij => (oO i hi hij).only (onlyUp u3) (fun q hq e => (oO i hi hij).notRow ow (by decide) (by decide) (by decide) (by decide) q hq (by rw [e]; rfl))
      have on3 := on.trans ((onlyUp u3).mono (S' := InHs (.slice (some ⟨g, 0, none⟩) n cap) hs) (fun i e => .inl (by rw [e]; rfl)))
      have hb3 : base ≤ (((wr.setCell ⟨g, j * 9, none⟩ (.bool (kk % 3 == 0))).setCell ⟨g, j * 9 + 1, none⟩ (.int .i64 (kk + 1))).setCell ⟨g, j * 9 + 3, none⟩ (.int .i64 (kk + 1 + 1))).heap.size := Nat.le_trans hbs u3.size
      have hxx : xs[j] = x := by rw [List.getElem?_eq_getElem hjx] at hxj; exact Option.some.inj hxj
      rw [hxx] at t0 t1
      have H3 : Hid _ := And.intro ow3 (And.intro hox3 (And.intro oM3 (And.intro oO3 (And.intro on3 hb3))))
      clear hx hxs hxj hst hml oM oO hxx ow hn1 ow2 hx2 ow3 hox hox3 oM3 oO3 on on3 hb3 u3 hbs
      have i0 : (0 : Int) ≤ (j : Int) := by omega
      have i1 : (j : Int) < (n : Int) := by omega
      have hk0 : 0 ≤ kk := by omega
      have hk1 : kk ≤ 1048576 := by omega
      have w1a : IntKind.i64.wrap (kk + 1) = kk + 1 := by rw [IntKind.wrap_i64]; omega
      have w1b : IntKind.i64.wrap (kk + 1 + 1) = kk + 1 + 1 := by rw [IntKind.wrap_i64]; omega
      have w1c : IntKind.i64.wrap (kk + 1 + 1 + 1) = kk + 1 + 1 + 1 := by rw [IntKind.wrap_i64]; omega
      go_wp2_with fail
      refine (markEntries_nil x.lo x.lc _ _).mono ?_
      rintro e w1 ⟨rfl, rfl⟩
      have H3o := H3.out
      have rj : ∀ W : World, W.ownsRow base 33 9 (.slice (some ⟨g, 0, none⟩) n cap) (xs.set j (markHw kk x)).length ((xs.set j (markHw kk x)).flatMap hwC) → W.cell? ⟨g, j * 9 + 4, none⟩ = some (.slice x.o1 x.st.s.cs.length x.c1) ∧ W.cell? ⟨g, j * 9 + 5, none⟩ = some (.slice x.o2 x.st.s.ps.length x.c2) ∧ W.cell? ⟨g, j * 9 + 6, none⟩ = some (.slice x.o3 0 x.c3) ∧ W.cell? ⟨g, j * 9 + 7, none⟩ = some (.slice x.o4 x.st.ts.length x.c4) ∧ W.cell? ⟨g, j * 9 + 8, none⟩ = some (.slice x.o5 x.st.rs.length x.c5) := fun W r => by
        obtain ⟨⟨-, -, -, -, s4, s5, s6, s7, s8⟩, -⟩ := own_nineH r j (by rw [List.length_set]; exact hjx)
        simp only [List.getElem_set_self] at s4 s5 s6 s7 s8
        exact ⟨s4, s5, s6, s7, s8⟩
      have RJ : Hid _ := rj
      clear rj
      have s4 := (RJ.out _ H3o.1).1
      clear H3o
      go_wp2_with fail
      clear s4 t0 t1 t2 t3 f0 f1 f3
      replace H3 := H3.out
      generalize (((wr.setCell ⟨g, j * 9, none⟩ (.bool (kk % 3 == 0))).setCell ⟨g, j * 9 + 1, none⟩ (.int .i64 (kk + 1))).setCell ⟨g, j * 9 + 3, none⟩ (.int .i64 (kk + 1 + 1))) = w3 at H3 ⊢
      obtain ⟨row, ox, oM, oO, on3, hb3⟩ := H3
      obtain ⟨z1, z2, z3, z4⟩ := hzx
      refine (markedIRow_any _ x.st.s.cs.length base (kk + 1 + 1 + 1) _ _ (by omega) (by omega) hb3 ox.sh.p.c).mono ?_
      rintro e w4 ⟨rfl, rc4, b4, y4, f4⟩
      have on4 := only_of b4 y4 f4
      have row4 := own_only row on4 (fun q hq e => rows_two ox.sh.p.c row (by decide) q e hq)
      have rp4 := own_only ox.sh.p.p on4 (fun q hq e => ox.sh.p.apart q e hq)
      have rb4 := own_only ox.sh.b.row on4 (fun q hq e => rows_two ox.sh.p.c ox.sh.b.row (by decide) q e hq)
      have rt4 := own_only ox.mm.t on4 (fun q hq e => hapx q (.inl e) hq)
      have rr4 := own_only ox.mm.r on4 (fun q hq e => rows_two ox.sh.p.c ox.mm.r (by decide) q e hq)
      have rl4 := own_only ox.log on4 (fun q hq e => rows_two ox.sh.p.c ox.log (by decide) q e hq)
      have onT := on4.mono (S' := x.In) (fun i e => .inr (.inl (.inl e)))
      have AP2 : Hid _ := ox.sh.p.apart
      have AA : Hid _ := ox.sh.a
      have hb4 := Nat.le_trans hb3 y4
      clear b4 y4 f4 on4
      have s5 := (RJ.out _ row4).2.1
      have H5 : Hid _ := And.intro row4 (And.intro rc4 (And.intro rp4 (And.intro rb4 (And.intro rt4 (And.intro rr4 (And.intro rl4 onT))))))
      have HW3 : Hid _ := And.intro row (And.intro ox (And.intro oM (And.intro oO on3)))
      clear row row4 rc4 rp4 rb4 rt4 rr4 rl4 onT ox oM oO on3
      go_wp2_with fail
      clear s5
      obtain ⟨row4, rc4, rp4, rb4, rt4, rr4, rl4, onT⟩ := H5.out
      clear H5
      refine (markedIRow_any _ x.st.s.ps.length base (kk + 1 + 1 + 1 + (x.st.s.cs.length : Int)) _ _ (by omega) (by omega) hb4 rp4).mono ?_
      rintro e w5 ⟨rfl, rp5, b4, y4, f4⟩
      have on4 := only_of b4 y4 f4
      have row5 := own_only row4 on4 (fun q hq e => rows_two rp4 row4 (by decide) q e hq)
      have rc5 := own_only rc4 on4 (fun q hq e => AP2.out q hq e)
      have rb5 := own_only rb4 on4 (fun q hq e => rows_two rp4 rb4 (by decide) q e hq)
      have rt5 := own_only rt4 on4 (fun q hq e => hapx q (.inr e) hq)
      have rr5 := own_only rr4 on4 (fun q hq e => rows_two rp4 rr4 (by decide) q e hq)
      have rl5 := own_only rl4 on4 (fun q hq e => rows_two rp4 rl4 (by decide) q e hq)
      replace onT := onT.trans (on4.mono (S' := x.In) (fun i e => .inr (.inl (.inr (.inl e)))))
      have hb5 := Nat.le_trans hb4 y4
      clear b4 y4 f4 on4 row4 rc4 rp4 rb4 rt4 rr4 rl4 hb4
      have s6 := (RJ.out _ row5).2.2.1
      have s7 := (RJ.out _ row5).2.2.2.1
      have H5 : Hid _ := And.intro row5 (And.intro rc5 (And.intro rp5 (And.intro rb5 (And.intro rt5 (And.intro rr5 (And.intro rl5 onT))))))
      clear row5 rc5 rp5 rb5 rt5 rr5 rl5 onT
      go_wp2_with fail
      refine (markBooks_nil x.o3 x.c3 _ _).mono ?_
      rintro e w6 ⟨rfl, rfl⟩
      go_wp2_with fail
      clear s6 s7
      obtain ⟨row5, rc5, rp5, rb5, rt5, rr5, rl5, onT⟩ := H5.out
      clear H5
      refine (markedIRow_any _ x.st.ts.length base (kk + 1 + 1 + 1 + (x.st.s.cs.length : Int) + (x.st.s.ps.length : Int)) _ _ (by omega) (by omega) hb5 rt5).mono ?_
      rintro e w7 ⟨rfl, rt7, b4, y4, f4⟩
      have on4 := only_of b4 y4 f4
      have row7 := own_only row5 on4 (fun q hq e => rows_two rt5 row5 (by decide) q e hq)
      have rc7 := own_only rc5 on4 (fun q hq e => hapx q (.inl hq) e)
      have rp7 := own_only rp5 on4 (fun q hq e => hapx q (.inr hq) e)
      have rb7 := own_only rb5 on4 (fun q hq e => rows_two rt5 rb5 (by decide) q e hq)
      have rr7 := own_only rr5 on4 (fun q hq e => rows_two rt5 rr5 (by decide) q e hq)
      have rl7 := own_only rl5 on4 (fun q hq e => rows_two rt5 rl5 (by decide) q e hq)
      replace onT := onT.trans (on4.mono (S' := x.In) (fun i e => .inr (.inr (.inl e))))
      have hb7 := Nat.le_trans hb5 y4
      clear b4 y4 f4 on4 row5 rc5 rp5 rb5 rt5 rr5 rl5 hb5
      have s8 := (RJ.out _ row7).2.2.2.2
      have H5 : Hid _ := And.intro row7 (And.intro rc7 (And.intro rp7 (And.intro rb7 (And.intro rt7 (And.intro rr7 (And.intro rl7 onT))))))
      clear row7 rc7 rp7 rb7 rt7 rr7 rl7 onT
      go_wp2_with fail
      clear s8
      obtain ⟨row7, rc7, rp7, rb7, rt7, rr7, rl7, onT⟩ := H5.out
      clear H5
      refine (markedPRow_any _ base (kk + 1 + 1 + 1 + (x.st.s.cs.length : Int) + (x.st.s.ps.length : Int) + (x.st.ts.length : Int)) x.st.rs _ (by omega) (by unfold markHN at hks1; omega) z4 hb7 rr7).mono ?_
      rintro e w8 ⟨rfl, rr8, b4, y4, f4⟩
      have on4 := only_of b4 y4 f4
      have row8 := own_only row7 on4 (fun q hq e => rows_two rr7 row7 (by decide) q e hq)
      have rc8 := own_only rc7 on4 (fun q hq e => rows_two rr7 rc7 (by decide) q e hq)
      have rp8 := own_only rp7 on4 (fun q hq e => rows_two rr7 rp7 (by decide) q e hq)
      have rb8 := own_only rb7 on4 (fun q hq e => rows_two rr7 rb7 (by decide) q e hq)
      have rt8 := own_only rt7 on4 (fun q hq e => rows_two rr7 rt7 (by decide) q e hq)
      have rl8 := own_only rl7 on4 (fun q hq e => rows_two rr7 rl7 (by decide) q e hq)
      replace onT := onT.trans (on4.mono (S' := x.In) (fun i e => .inr (.inr (.inr e))))
      have hb8 := Nat.le_trans hb7 y4
      clear b4 y4 f4 on4 row7 rc7 rp7 rb7 rt7 rr7 rl7 hb7
      have oX : x.OwnM base w8 (kk + 1 + 1 + 1) := ⟨rl8, ⟨⟨by rw [marksI_length]; exact rc8, by rw [marksI_length]; exact rp8, AP2.out⟩, ⟨rb8, fun b hb => by cases hb⟩, AA.out⟩, ⟨by rw [marksI_length]; exact rt8, rr8⟩⟩
      obtain ⟨row, ox, oM, oO, on3⟩ := HW3.out
      have HF : Hid (w8.ownsRow base 33 9 (.slice (some ⟨g, 0, none⟩) n cap) (marksHw k (hs.take (j + 1)) ++ hs.drop (j + 1)).length ((marksHw k (hs.take (j + 1)) ++ hs.drop (j + 1)).flatMap hwC) ∧ (∀ i (hi : i < hs.length), i < j + 1 → hs[i].OwnM base w8 (marksHE k (hs.take i) + 1 + 1 + 1)) ∧ (∀ i (hi : i < hs.length), j + 1 ≤ i → hs[i].Own base w8) ∧ Only (InHs (.slice (some ⟨g, 0, none⟩) n cap) hs) w w8) := by
        refine ⟨?_, fun i hi hij => ?_, fun i hi hij => ?_, on3.trans (onT.mono HIN.out)⟩
        · rw [HST.out] at row8
          rw [HT.out.2]
          exact row8
        · rcases Nat.lt_or_ge i j with y | y
          · exact (oM i hi y).only onT (HOT.out i hi (by omega))
          · obtain rfl : i = j := by omega
            rw [HX.out, HK.out]
            exact oX
        · exact (oO i hi (by omega)).only onT (HOT.out i hi (by omega))
      have hfe : kk + 1 + 1 + 1 + (x.st.s.cs.length : Int) + (x.st.s.ps.length : Int) + (x.st.ts.length : Int) + 2 * (x.st.rs.length : Int) = marksHE k (hs.take (j + 1)) := HT.out.1.symm
      rw [hfe]
      clear row ox oM oO on3 row8 rc8 rp8 rb8 rt8 rl8 rr8 onT oX HW3 hfe HIN HOT HST HT RJ HX
      go_wp2_with fail
      go_roundw
      case rel => exact ⟨j + 1, by omega, by go_num, rfl, HF.out.1, HF.out.2.1, HF.out.2.2.1, HF.out.2.2.2, hb8⟩
      case measure => simp [intOf]; omega
    · obtain rfl : j = n := by omega
      have htk : hs.take j = hs := List.take_of_length_le (by have := HN.out; omega)
      have hdr : hs.drop j = [] := List.drop_of_length_le (by have := HN.out; omega)
      rw [htk, hdr, List.append_nil] at ow
      have HF : Hid _ := And.intro ow (And.intro oM on)
      rw [htk]
      clear ow oM oO on hdr htk hn1
      go_wp2_with fail
      go_ret
      exact ⟨rfl, ⟨HF.out.1, fun i hi => HF.out.2.1 i hi (by have := HN.out; omega)⟩, HF.out.2.2⟩

/-- A row of houses of one's own, marked. -/
theorem markHouses_any (v : Value) (base : Nat) (k : Int) (hs : List Hw) (w : World) (hk : 0 ≤ k) (hk2 : marksHE k hs ≤ 1048576) (hz : ∀ h ∈ hs, h.st.s.cs.length ≤ 1048576 ∧ h.st.s.ps.length ≤ 1048576 ∧ h.st.ts.length ≤ 1048576 ∧ h.st.rs.length ≤ 1048576) (own : OwnHs base w v hs) (hbase : base ≤ w.heap.size) :
    Calls Tryz.prog 74 #[v, .int .i64 k] w fun e w' => e = .returned (.int .i64 (marksHE k hs)) ∧ OwnHMs base w' v hs k ∧ Only (InHs v hs) w w' := by
  rcases own.row.2 with ⟨rfl, h0⟩ | ⟨g, cap, cur, rfl, hg, _⟩
  · obtain rfl : hs = [] := List.length_eq_zero_iff.1 h0
    clear own
    go_enter Tryz.func74, Tryz.ntmps74
    go_wp2
    refine wp_loop_rounds 1 ?_
    rw [rounds_succ]
    go_wp2
    go_ret
    exact ⟨rfl, ⟨World.ownsRow_nil _ _ _ _, fun i hi => absurd hi (Nat.not_lt_zero _)⟩, Only.refl _ _⟩
  · exact markedHs_any g cap hs.length base k hs w hk hk2 rfl hz own hbase

set_option maxRecDepth 100000 in
set_option maxHeartbeats 6400000 in
theorem heldHouses_any (v : Value) (base : Nat) (k : Int) (hs : List Hw) (w : World) (hk : 0 ≤ k) (hk2 : marksHE k hs ≤ 1048576) (hz : ∀ h ∈ hs, h.st.s.cs.length ≤ 1048576 ∧ h.st.s.ps.length ≤ 1048576 ∧ h.st.ts.length ≤ 1048576 ∧ h.st.rs.length ≤ 1048576) (own : OwnHMs base w v hs k) :
    Calls Tryz.prog 79 #[v, .int .i64 k] w fun e w' => e = .returned (.int .i64 (marksHE k hs)) ∧ Below w.heap.size w w' := by
  obtain ⟨p0, cap, rfl, hm, hc, -⟩ := ReadsR.of_own hwC_len own.row
  rw [marksHw_length] at hm ⊢
  have HC : Hid _ := hw_cells hc
  have HZ : Hid _ := hz
  have HM : Hid _ := own.own
  have HG : Hid (∀ j : Nat, k ≤ marksHE k (hs.take j) ∧ marksHE k (hs.take j) ≤ 1048576) := fun j => ⟨marksHE_ge _ _, Int.le_trans (marksHE_le hs k j) hk2⟩
  unfold maxLen at hm
  clear hc hz own hk2
  go_enter Tryz.func79, Tryz.ntmps79
  go_wp2_with fail
  go_loopw [1, 5] (fun q i wr => ∃ (j : Nat), j ≤ hs.length ∧ i = .int .i64 j ∧ q = .int .i64 (marksHE k (hs.take j)) ∧ Below w.heap.size w wr) (fun _ i _ => hs.length - (intOf i).toNat)
  case atStart => exact ⟨0, Nat.zero_le _, rfl, rfl, Below.refl _ _⟩
  case round =>
    obtain ⟨j, hj, rfl, rfl, hb⟩ := hrel
    by_cases hlt : j < hs.length
    · have hks := HG.out j
      have hks1 := HG.out (j + 1)
      rw [marksHE_take hs k j hlt] at hks1
      have HT : Hid _ := marksHE_take hs k j hlt
      have hml : (marksHw k (hs.take j)).length = j := by rw [marksHw_length, List.length_take]; omega
      have hjm : j < (marksHw k hs).length := by rw [marksHw_length]; exact hlt
      obtain ⟨g, off, rfl, hg, a0, a1, a2, a3, a4, a5, a6, a7, a8⟩ := HC.out j hjm
      have hat : (marksHw k hs)[j] = markHw (marksHE k (hs.take j)) hs[j] := by
        have e : marksHw k hs = marksHw k (hs.take (j + 1)) ++ marksHw (marksHE k (hs.take (j + 1))) (hs.drop (j + 1)) := by rw [← marksHw_append, List.take_append_drop]
        have e2 : (marksHw k hs)[j]? = some (markHw (marksHE k (hs.take j)) hs[j]) := by
          rw [e, marksHw_take hs k j hlt, List.append_assoc, List.getElem?_append_right (by omega), hml, Nat.sub_self]
          rfl
        rw [List.getElem?_eq_getElem hjm] at e2
        exact Option.some.inj e2
      rw [hat] at a0 a1 a2 a3 a4 a5 a6 a7 a8
      have ox := (HM.out j hlt).below hb
      obtain ⟨z1, z2, z3, z4⟩ := HZ.out hs[j] (List.getElem_mem hlt)
      generalize marksHE k (hs.take j) = kk at *
      generalize hs[j] = x at *
      simp only [markHw] at a0 a1 a2 a3 a4 a5 a6 a7 a8
      unfold markHN at hks1
      have lg : g < wr.heap.size := Nat.lt_of_lt_of_le hg hb.size
      replace a0 := (hb.cell (p := ⟨g, off + j * 9, none⟩) hg).trans a0
      replace a1 := (hb.cell (p := ⟨g, off + j * 9 + 1, none⟩) hg).trans a1
      replace a2 := (hb.cell (p := ⟨g, off + j * 9 + 2, none⟩) hg).trans a2
      replace a3 := (hb.cell (p := ⟨g, off + j * 9 + 3, none⟩) hg).trans a3
      replace a4 := (hb.cell (p := ⟨g, off + j * 9 + 4, none⟩) hg).trans a4
      replace a5 := (hb.cell (p := ⟨g, off + j * 9 + 5, none⟩) hg).trans a5
      replace a6 := (hb.cell (p := ⟨g, off + j * 9 + 6, none⟩) hg).trans a6
      replace a7 := (hb.cell (p := ⟨g, off + j * 9 + 7, none⟩) hg).trans a7
      replace a8 := (hb.cell (p := ⟨g, off + j * 9 + 8, none⟩) hg).trans a8
      have i0 : (0 : Int) ≤ (j : Int) := by omega
      have i1 : (j : Int) < (hs.length : Int) := by omega
      have hk0 : 0 ≤ kk := by omega
      have w1a : IntKind.i64.wrap (kk + 1) = kk + 1 := by rw [IntKind.wrap_i64]; omega
      have w1b : IntKind.i64.wrap (kk + 1 + 1) = kk + 1 + 1 := by rw [IntKind.wrap_i64]; omega
      have w1c : IntKind.i64.wrap (kk + 1 + 1 + 1) = kk + 1 + 1 + 1 := by rw [IntKind.wrap_i64]; omega
      have n0 : ¬ kk + 1 + 1 < 0 := by omega
      have n1 : ¬ kk + 1 + 1 + 1 + (x.st.s.cs.length : Int) < 0 := by omega
      have n2 : ¬ kk + 1 + 1 + 1 + (x.st.s.cs.length : Int) + (x.st.s.ps.length : Int) < 0 := by omega
      have n3 : ¬ kk + 1 + 1 + 1 + (x.st.s.cs.length : Int) + (x.st.s.ps.length : Int) + (x.st.ts.length : Int) < 0 := by omega
      have n4 : ¬ kk + 1 + 1 + 1 + (x.st.s.cs.length : Int) + (x.st.s.ps.length : Int) + (x.st.ts.length : Int) + 2 * (x.st.rs.length : Int) < 0 := by omega
      have HO : Hid _ := ox
      have HB : Hid _ := hb
      clear hat hjm hml ox hb HC HZ HM HG
      go_wp2_with fail
      refine (heldEntries_nil x.lo x.lc _ _).mono ?_
      rintro e w1 ⟨rfl, rfl⟩
      go_wp2_with fail
      refine (heldI_any _ x.st.s.cs.length (kk + 1 + 1 + 1) _ (by omega) (by omega) HO.out.sh.p.r1).mono ?_
      rintro e w4 ⟨rfl, b4⟩
      have HO4 : Hid _ := HO.out.below b4
      have HB4 : Hid _ := bw_call HB.out b4
      have lg4 := Nat.lt_of_lt_of_le lg b4.size
      replace a5 := (b4.cell (p := ⟨g, off + j * 9 + 5, none⟩) lg).trans a5
      replace a6 := (b4.cell (p := ⟨g, off + j * 9 + 6, none⟩) lg).trans a6
      replace a7 := (b4.cell (p := ⟨g, off + j * 9 + 7, none⟩) lg).trans a7
      replace a8 := (b4.cell (p := ⟨g, off + j * 9 + 8, none⟩) lg).trans a8
      clear a0 a1 a2 a3 a4 b4 HO HB lg
      go_wp2_with fail
      refine (heldI_any _ x.st.s.ps.length (kk + 1 + 1 + 1 + (x.st.s.cs.length : Int)) _ (by omega) (by omega) HO4.out.sh.p.r2).mono ?_
      rintro e w5 ⟨rfl, b4⟩
      have HO5 : Hid _ := HO4.out.below b4
      have HB5 : Hid _ := bw_call HB4.out b4
      have lg5 := Nat.lt_of_lt_of_le lg4 b4.size
      replace a6 := (b4.cell (p := ⟨g, off + j * 9 + 6, none⟩) lg4).trans a6
      replace a7 := (b4.cell (p := ⟨g, off + j * 9 + 7, none⟩) lg4).trans a7
      replace a8 := (b4.cell (p := ⟨g, off + j * 9 + 8, none⟩) lg4).trans a8
      clear a5 b4 HO4 HB4 lg4
      go_wp2_with fail
      refine (heldBooks_nil x.o3 x.c3 _ _).mono ?_
      rintro e w6 ⟨rfl, rfl⟩
      go_wp2_with fail
      refine (heldI_any _ x.st.ts.length (kk + 1 + 1 + 1 + (x.st.s.cs.length : Int) + (x.st.s.ps.length : Int)) _ (by omega) (by omega) (Reads.of_own HO5.out.mm.t)).mono ?_
      rintro e w7 ⟨rfl, b4⟩
      have HO7 : Hid _ := HO5.out.below b4
      have HB7 : Hid _ := bw_call HB5.out b4
      replace a8 := (b4.cell (p := ⟨g, off + j * 9 + 8, none⟩) lg5).trans a8
      clear a6 a7 b4 HO5 HB5 lg5
      go_wp2_with fail
      refine (heldP_any _ x.st.rs.length (kk + 1 + 1 + 1 + (x.st.s.cs.length : Int) + (x.st.s.ps.length : Int) + (x.st.ts.length : Int)) _ (by omega) (by omega) z4 (ReadsR.of_own repC_len HO7.out.mm.r)).mono ?_
      rintro e w8 ⟨rfl, b4⟩
      have HB8 : Hid _ := bw_call HB7.out b4
      clear a8 b4 HO7 HB7
      go_wp2_with fail
      go_roundw
      case rel => exact ⟨j + 1, by omega, by go_num, by rw [HT.out]; rfl, HB8.out⟩
      case measure => simp [intOf]; omega
    · have hjl : j = hs.length := by omega
      have htk : hs.take j = hs := by rw [hjl, List.take_length]
      rw [htk]
      have i1 : ¬ (j : Int) < (hs.length : Int) := by omega
      clear htk
      go_wp2_with fail
      go_ret
      exact ⟨rfl, hb⟩
end Go.Proofs.YtibhepekmihagaaGreatDoor

