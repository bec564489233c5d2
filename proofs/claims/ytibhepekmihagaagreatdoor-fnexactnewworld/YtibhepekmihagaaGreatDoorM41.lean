/-
  Contracts and plain laws, one chapter behind the other.
-/
import Derived.Deep.AppendLies
import Derived.Test.YtibhepekmihagaaGreatDoorM29
import Derived.Test.YtibhepekmihagaaGreatDoorM40
namespace Go.Proofs.YtibhepekmihagaaGreatDoor
open Go.RowKit

set_option linter.unusedVariables false

set_option linter.unusedSimpArgs false


theorem op_move17 {P : Program} {Q : Exit → Act → World → Prop} {o : Oper} {K : Act → World → Prop} {a : Act} {x : World} (s : Tmp) (ho : o.op = .move (.tmp s)) (h : K (a.put o.dst (a.tmps.getD s undef)) x) : o.wp P a x K Q := by
  unfold Oper.wp execOp
  simp only [ho]
  exact h

theorem Tryz.infoWorld6 : (Tryz.prog.info? 71).map (·.size) = some 6 := by kernel_rfl

/-- A whole house is written into a row of houses. -/
theorem own_house {w : World} {base g n cap : Nat} {xs : List Hw} (h : w.ownsRow base 33 9 (.slice (some ⟨g, 0, none⟩) n cap) xs.length (xs.flatMap hwC)) (i : Nat) (hi : i < xs.length) (y : Hw) :
    (((((((((w.setCell ⟨g, i * 9, none⟩ (.bool y.up)).setCell ⟨g, i * 9 + 1, none⟩ (.int .i64 y.pg)).setCell ⟨g, i * 9 + 2, none⟩ (.slice y.lo 0 y.lc)).setCell ⟨g, i * 9 + 3, none⟩ (.int .i64 y.ac)).setCell ⟨g, i * 9 + 4, none⟩ (.slice y.o1 y.st.s.cs.length y.c1)).setCell ⟨g, i * 9 + 5, none⟩ (.slice y.o2 y.st.s.ps.length y.c2)).setCell ⟨g, i * 9 + 6, none⟩ (.slice y.o3 0 y.c3)).setCell ⟨g, i * 9 + 7, none⟩ (.slice y.o4 y.st.ts.length y.c4)).setCell ⟨g, i * 9 + 8, none⟩ (.slice y.o5 y.st.rs.length y.c5)).ownsRow base 33 9 (.slice (some ⟨g, 0, none⟩) n cap) (xs.set i y).length ((xs.set i y).flatMap hwC) := by
  obtain ⟨f, hf⟩ : ∃ f : Hw → {l : List Value // l.length = 9}, f = fun x => ⟨hwC x, rfl⟩ := ⟨_, rfl⟩
  have hfl : ∀ l : List Hw, (l.map f).flatMap (fun v => v.1) = l.flatMap hwC := fun l => by
    rw [hf, List.flatMap_map]
  have hi0 : i < (xs.map f).length := by rw [List.length_map]; exact hi
  obtain ⟨v0, hv0⟩ : ∃ v0, (xs.map f)[i]? = some v0 := ⟨_, List.getElem?_eq_getElem hi0⟩
  have hx0 := hv0
  have h0 : w.ownsRow base 33 9 (.slice (some ⟨g, 0, none⟩) n cap) (xs.map f).length ((xs.map f).flatMap (fun v => v.1)) := by rw [hfl, List.length_map]; exact h
  obtain ⟨ys, hys⟩ : ∃ ys, xs.map f = ys := ⟨_, rfl⟩
  rw [hys] at h0 hx0 hi0
  have h1 := own_put (cs := fun v : {l : List Value // l.length = 9} => v.1) (fun v => v.2) h0 i 0 v0 ⟨v0.1.set 0 (.bool y.up), by rw [List.length_set]; exact v0.2⟩ (.bool y.up) hx0 (by omega) rfl
  obtain ⟨v1, hv1⟩ : ∃ v : {l : List Value // l.length = 9}, v = ⟨v0.1.set 0 (.bool y.up), by rw [List.length_set]; exact v0.2⟩ := ⟨_, rfl⟩
  rw [← hv1] at h1
  have h2 := own_put (cs := fun v : {l : List Value // l.length = 9} => v.1) (fun v => v.2) h1 i 1 v1 ⟨v1.1.set 1 (.int .i64 y.pg), by rw [List.length_set]; exact v1.2⟩ (.int .i64 y.pg) (by simp [hi0]) (by omega) rfl
  obtain ⟨v2, hv2⟩ : ∃ v : {l : List Value // l.length = 9}, v = ⟨v1.1.set 1 (.int .i64 y.pg), by rw [List.length_set]; exact v1.2⟩ := ⟨_, rfl⟩
  rw [← hv2] at h2
  have h3 := own_put (cs := fun v : {l : List Value // l.length = 9} => v.1) (fun v => v.2) h2 i 2 v2 ⟨v2.1.set 2 (.slice y.lo 0 y.lc), by rw [List.length_set]; exact v2.2⟩ (.slice y.lo 0 y.lc) (by simp [hi0]) (by omega) rfl
  obtain ⟨v3, hv3⟩ : ∃ v : {l : List Value // l.length = 9}, v = ⟨v2.1.set 2 (.slice y.lo 0 y.lc), by rw [List.length_set]; exact v2.2⟩ := ⟨_, rfl⟩
  rw [← hv3] at h3
  have h4 := own_put (cs := fun v : {l : List Value // l.length = 9} => v.1) (fun v => v.2) h3 i 3 v3 ⟨v3.1.set 3 (.int .i64 y.ac), by rw [List.length_set]; exact v3.2⟩ (.int .i64 y.ac) (by simp [hi0]) (by omega) rfl
  obtain ⟨v4, hv4⟩ : ∃ v : {l : List Value // l.length = 9}, v = ⟨v3.1.set 3 (.int .i64 y.ac), by rw [List.length_set]; exact v3.2⟩ := ⟨_, rfl⟩
  rw [← hv4] at h4
  have h5 := own_put (cs := fun v : {l : List Value // l.length = 9} => v.1) (fun v => v.2) h4 i 4 v4 ⟨v4.1.set 4 (.slice y.o1 y.st.s.cs.length y.c1), by rw [List.length_set]; exact v4.2⟩ (.slice y.o1 y.st.s.cs.length y.c1) (by simp [hi0]) (by omega) rfl
  obtain ⟨v5, hv5⟩ : ∃ v : {l : List Value // l.length = 9}, v = ⟨v4.1.set 4 (.slice y.o1 y.st.s.cs.length y.c1), by rw [List.length_set]; exact v4.2⟩ := ⟨_, rfl⟩
  rw [← hv5] at h5
  have h6 := own_put (cs := fun v : {l : List Value // l.length = 9} => v.1) (fun v => v.2) h5 i 5 v5 ⟨v5.1.set 5 (.slice y.o2 y.st.s.ps.length y.c2), by rw [List.length_set]; exact v5.2⟩ (.slice y.o2 y.st.s.ps.length y.c2) (by simp [hi0]) (by omega) rfl
  obtain ⟨v6, hv6⟩ : ∃ v : {l : List Value // l.length = 9}, v = ⟨v5.1.set 5 (.slice y.o2 y.st.s.ps.length y.c2), by rw [List.length_set]; exact v5.2⟩ := ⟨_, rfl⟩
  rw [← hv6] at h6
  have h7 := own_put (cs := fun v : {l : List Value // l.length = 9} => v.1) (fun v => v.2) h6 i 6 v6 ⟨v6.1.set 6 (.slice y.o3 0 y.c3), by rw [List.length_set]; exact v6.2⟩ (.slice y.o3 0 y.c3) (by simp [hi0]) (by omega) rfl
  obtain ⟨v7, hv7⟩ : ∃ v : {l : List Value // l.length = 9}, v = ⟨v6.1.set 6 (.slice y.o3 0 y.c3), by rw [List.length_set]; exact v6.2⟩ := ⟨_, rfl⟩
  rw [← hv7] at h7
  have h8 := own_put (cs := fun v : {l : List Value // l.length = 9} => v.1) (fun v => v.2) h7 i 7 v7 ⟨v7.1.set 7 (.slice y.o4 y.st.ts.length y.c4), by rw [List.length_set]; exact v7.2⟩ (.slice y.o4 y.st.ts.length y.c4) (by simp [hi0]) (by omega) rfl
  obtain ⟨v8, hv8⟩ : ∃ v : {l : List Value // l.length = 9}, v = ⟨v7.1.set 7 (.slice y.o4 y.st.ts.length y.c4), by rw [List.length_set]; exact v7.2⟩ := ⟨_, rfl⟩
  rw [← hv8] at h8
  have h9 := own_put (cs := fun v : {l : List Value // l.length = 9} => v.1) (fun v => v.2) h8 i 8 v8 ⟨v8.1.set 8 (.slice y.o5 y.st.rs.length y.c5), by rw [List.length_set]; exact v8.2⟩ (.slice y.o5 y.st.rs.length y.c5) (by simp [hi0]) (by omega) rfl
  obtain ⟨v9, hv9⟩ : ∃ v : {l : List Value // l.length = 9}, v = ⟨v8.1.set 8 (.slice y.o5 y.st.rs.length y.c5), by rw [List.length_set]; exact v8.2⟩ := ⟨_, rfl⟩
  rw [← hv9] at h9
  rw [List.set_set, List.set_set, List.set_set, List.set_set, List.set_set, List.set_set, List.set_set, List.set_set] at h9
  have hv : v9 = f y := by
    have hq : v0.1 = hwC xs[i] := by
      have : (xs.map f)[i]? = some (f xs[i]) := by rw [List.getElem?_map, List.getElem?_eq_getElem hi]; rfl
      rw [hys, hx0] at this
      rw [Option.some.inj this, hf]
    rw [hf]
    apply Subtype.ext
    subst hv9 hv8 hv7 hv6 hv5 hv4 hv3 hv2 hv1
    simp only
    rw [hq]
    rfl
  rw [hv, ← hys, ← List.map_set, hfl, List.length_map] at h9
  simpa using h9

theorem mem_set {α : Type} {l : List α} {i : Nat} {y x : α} (h : x ∈ l.set i y) : x ∈ l ∨ x = y := List.mem_or_eq_of_mem_set h

theorem ApartH.set {hs : List Hw} (h : ApartH hs) (j : Nat) (y : Hw) (hy : ∀ b ∈ hs, ∀ i, b.In i → ¬ y.In i) : ApartH (hs.set j y) := by
  rw [ApartH, List.pairwise_iff_getElem]
  intro a b ha hb hab q h1 h2
  rw [List.length_set] at ha hb
  by_cases ea : j = a
  · subst ea
    rw [List.getElem_set_self] at h1
    rw [List.getElem_set_ne (by omega)] at h2
    exact hy _ (List.getElem_mem hb) q h2 h1
  · rw [List.getElem_set_ne ea] at h1
    by_cases eb : j = b
    · subst eb
      rw [List.getElem_set_self] at h2
      exact hy _ (List.getElem_mem ha) q h1 h2
    · rw [List.getElem_set_ne eb] at h2
      exact List.pairwise_iff_getElem.1 h a b ha hb hab q h1 h2

/-- A house is written into a world's row of houses. -/
theorem OwnWd.setHouse {base g N cap j : Nat} {w : World} {vm vc : Value} {hs : List Hw} {ms : List Int} {cs : List Cl} (o : OwnWd base w (.slice (some ⟨g, 0, none⟩) N cap) vm vc hs ms cs) (hj : j < hs.length) (y : Hw) (hy : y.Own base w) (ha : y.Ap) (hap : ∀ b ∈ hs, ∀ i, b.In i → ¬ y.In i) (hym : ∀ i, y.In i → vm.ownBlock ≠ some i) :
    OwnWd base (((((((((w.setCell ⟨g, j * 9, none⟩ (.bool y.up)).setCell ⟨g, j * 9 + 1, none⟩ (.int .i64 y.pg)).setCell ⟨g, j * 9 + 2, none⟩ (.slice y.lo 0 y.lc)).setCell ⟨g, j * 9 + 3, none⟩ (.int .i64 y.ac)).setCell ⟨g, j * 9 + 4, none⟩ (.slice y.o1 y.st.s.cs.length y.c1)).setCell ⟨g, j * 9 + 5, none⟩ (.slice y.o2 y.st.s.ps.length y.c2)).setCell ⟨g, j * 9 + 6, none⟩ (.slice y.o3 0 y.c3)).setCell ⟨g, j * 9 + 7, none⟩ (.slice y.o4 y.st.ts.length y.c4)).setCell ⟨g, j * 9 + 8, none⟩ (.slice y.o5 y.st.rs.length y.c5)) (.slice (some ⟨g, 0, none⟩) N cap) vm vc (hs.set j y) ms cs ∧ Upto g w (((((((((w.setCell ⟨g, j * 9, none⟩ (.bool y.up)).setCell ⟨g, j * 9 + 1, none⟩ (.int .i64 y.pg)).setCell ⟨g, j * 9 + 2, none⟩ (.slice y.lo 0 y.lc)).setCell ⟨g, j * 9 + 3, none⟩ (.int .i64 y.ac)).setCell ⟨g, j * 9 + 4, none⟩ (.slice y.o1 y.st.s.cs.length y.c1)).setCell ⟨g, j * 9 + 5, none⟩ (.slice y.o2 y.st.s.ps.length y.c2)).setCell ⟨g, j * 9 + 6, none⟩ (.slice y.o3 0 y.c3)).setCell ⟨g, j * 9 + 7, none⟩ (.slice y.o4 y.st.ts.length y.c4)).setCell ⟨g, j * 9 + 8, none⟩ (.slice y.o5 y.st.rs.length y.c5)) := by
  have u : Upto g w (((((((((w.setCell ⟨g, j * 9, none⟩ (.bool y.up)).setCell ⟨g, j * 9 + 1, none⟩ (.int .i64 y.pg)).setCell ⟨g, j * 9 + 2, none⟩ (.slice y.lo 0 y.lc)).setCell ⟨g, j * 9 + 3, none⟩ (.int .i64 y.ac)).setCell ⟨g, j * 9 + 4, none⟩ (.slice y.o1 y.st.s.cs.length y.c1)).setCell ⟨g, j * 9 + 5, none⟩ (.slice y.o2 y.st.s.ps.length y.c2)).setCell ⟨g, j * 9 + 6, none⟩ (.slice y.o3 0 y.c3)).setCell ⟨g, j * 9 + 7, none⟩ (.slice y.o4 y.st.ts.length y.c4)).setCell ⟨g, j * 9 + 8, none⟩ (.slice y.o5 y.st.rs.length y.c5)) := ((((((((((Upto.refl _ _).setCell ⟨g, j * 9, none⟩ (.inl rfl) _).setCell ⟨g, j * 9 + 1, none⟩ (.inl rfl) _).setCell ⟨g, j * 9 + 2, none⟩ (.inl rfl) _).setCell ⟨g, j * 9 + 3, none⟩ (.inl rfl) _).setCell ⟨g, j * 9 + 4, none⟩ (.inl rfl) _).setCell ⟨g, j * 9 + 5, none⟩ (.inl rfl) _).setCell ⟨g, j * 9 + 6, none⟩ (.inl rfl) _).setCell ⟨g, j * 9 + 7, none⟩ (.inl rfl) _).setCell ⟨g, j * 9 + 8, none⟩ (.inl rfl) _)
  have on := onlyUp u
  have hown : ∀ x : Hw, x.Own base w → x.Own base (((((((((w.setCell ⟨g, j * 9, none⟩ (.bool y.up)).setCell ⟨g, j * 9 + 1, none⟩ (.int .i64 y.pg)).setCell ⟨g, j * 9 + 2, none⟩ (.slice y.lo 0 y.lc)).setCell ⟨g, j * 9 + 3, none⟩ (.int .i64 y.ac)).setCell ⟨g, j * 9 + 4, none⟩ (.slice y.o1 y.st.s.cs.length y.c1)).setCell ⟨g, j * 9 + 5, none⟩ (.slice y.o2 y.st.s.ps.length y.c2)).setCell ⟨g, j * 9 + 6, none⟩ (.slice y.o3 0 y.c3)).setCell ⟨g, j * 9 + 7, none⟩ (.slice y.o4 y.st.ts.length y.c4)).setCell ⟨g, j * 9 + 8, none⟩ (.slice y.o5 y.st.rs.length y.c5)) := fun x hx => hx.only on (fun i hi e => hx.notRow o.h.row (by decide) (by decide) (by decide) (by decide) i hi (by rw [e]; rfl))
  refine ⟨⟨⟨own_house o.h.row j hj y, fun x hx => ?_, fun x hx => ?_, o.h.apart.set j y hap⟩, ⟨own_only o.m.c on (fun q hq e => rows_two o.m.c o.h.row (by decide) q hq (by rw [e]; rfl))⟩, own_only o.c on (fun q hq e => rows_two o.c o.h.row (by decide) q hq (by rw [e]; rfl)), fun x hx => ?_⟩, u⟩
  · rcases mem_set hx with h | rfl
    · exact hown x (o.h.own x h)
    · exact hown _ hy
  · rcases mem_set hx with h | rfl
    · exact o.h.ap x h
    · exact ha
  · rcases mem_set hx with h | rfl
    · exact o.a x h
    · exact hym

/-- What the row comes to: the houses made, then zero ones. -/
def nwPart (n m : Int) (st : Rp) (j : Nat) : List (Bool × Int × Int × Rp) := (List.range j).map (nwAt n m st) ++ List.replicate (4 - j) Hw.zero.pl

theorem nwPart_len {n m : Int} {st : Rp} {j : Nat} (h : j ≤ 4) : (nwPart n m st j).length = 4 := by simp [nwPart]; omega

theorem nwPart_set {n m : Int} {st : Rp} {j : Nat} (h : j < 4) (hm : (j : Int) < m) : (nwPart n m st j).set j (true, n, 0, st) = nwPart n m st (j + 1) := by
  unfold nwPart
  rw [List.set_append_right _ _ (by simp), List.length_map, List.length_range, Nat.sub_self, show 4 - j = (4 - (j + 1)) + 1 by omega, List.replicate_succ, List.set_cons_zero, List.range_succ, List.map_append, List.append_assoc]
  congr 1
  show _ = [nwAt n m st j] ++ _
  rw [show nwAt n m st j = (true, n, 0, st) from if_pos hm]
  rfl

theorem nwPart_end {n m : Int} {st : Rp} {j : Nat} (h1 : 1 ≤ m ∧ m ≤ 4) (hj : (j : Int) = m) : nwPart n m st j = (List.range 4).map (nwAt n m st) := by
  have hc : m = 1 ∨ m = 2 ∨ m = 3 ∨ m = 4 := by omega
  rcases hc with rfl | rfl | rfl | rfl
  · obtain rfl : j = 1 := by omega
    rfl
  · obtain rfl : j = 2 := by omega
    rfl
  · obtain rfl : j = 3 := by omega
    rfl
  · obtain rfl : j = 4 := by omega
    rfl

theorem nwMs_end {m : Int} {j : Nat} (h1 : 1 ≤ m ∧ m ≤ 4) (hj : (j : Int) = m) : nwMs m j = nwMs m 4 := by
  unfold nwMs
  rw [show min j m.toNat = min 4 m.toNat by omega]

set_option maxRecDepth 100000 in
set_option maxHeartbeats 6400000 in
theorem implNewWorld_any (n m : Int) (w : World) (ad : Nat → Addr) (ab : Addr) (hv : VarsS w ad) (hb : VarB w ab) : Calls Tryz.prog 29 #[.int .i64 n, .int .i64 m] w (NwP w n m) := by
  obtain ⟨j0, ji, jz0, jz1, jz2⟩ := info_parts Tryz.infoI64
  obtain ⟨⟨pg, st, ok⟩, hn⟩ : ∃ x, newH n = x := ⟨_, rfl⟩
  have HN : Hid (newH n = (pg, st, ok)) := hn
  have HYES : Hid (ok = true → pg = n) := fun h => by
    have h1 := newH_yes (n := n) (by rw [hn]; exact h)
    rw [hn] at h1
    exact h1
  have hpk : (decide (1 ≤ n) && decide (n ≤ 24)) = ok := by rw [← newH_in, hn]
  have HPK : Hid ((decide (1 ≤ n) && decide (n ≤ 24)) = ok) := hpk
  have HVS : Hid _ := hv
  have HVB : Hid _ := hb
  obtain ⟨W0, hW0, kR, d0, z0⟩ := box1 w #[.slice none 0 0, .int .i64 0, .slice none 0 0, .slice none 0 0, .slice none 0 0, .slice none 0 0] 71
  have HW0 : Hid (W0 = _) := hW0
  have lR := heap_lt kR
  clear hW0 z0 hn hpk hv hb
  go_enter Tryz.func29, Tryz.ntmps29
  go_upto_region 1 with fail
  rw [← HW0.out]
  clear HW0
  go_wp2_with fail
  refine (pageCountOk_any n _).mono ?_
  rintro e w3 ⟨rfl, hw3⟩
  obtain rfl := hw3.symm
  rw [HPK.out]
  clear HPK
  cases ok
  · obtain ⟨V, hV⟩ : ∃ V : World, V = (((((W0.setCell ⟨w.heap.size, 0, none⟩ (.slice none 0 0)).setCell ⟨w.heap.size, 1, none⟩ (.int .i64 0)).setCell ⟨w.heap.size, 2, none⟩ (.slice none 0 0)).setCell ⟨w.heap.size, 3, none⟩ (.slice none 0 0)).setCell ⟨w.heap.size, 4, none⟩ (.slice none 0 0)).setCell ⟨w.heap.size, 5, none⟩ (.slice none 0 0) := ⟨_, rfl⟩
    have HV : Hid (V = _) := hV
    have HE : Hid _ := world_put kR (.slice none 0 0) (.int .i64 0) (.slice none 0 0) (.slice none 0 0) (.slice none 0 0) (.slice none 0 0) hV
    have HF : Hid (Below w.heap.size w V) := d0.trans (HE.out.2.toBelow d0.size (Nat.le_refl _))
    have HK : Hid (nwOk n m = false) := by rw [Hid, nwOk, HN.out]; rfl
    have p0 := at_cell kR 0
    have p1 := at_cell kR 1
    have p2 := at_cell kR 2
    have p3 := at_cell kR 3
    have p4 := at_cell kR 4
    have p5 := at_cell kR 5
    have f0 := at_open kR 0
    have f1 := at_open kR 1
    have f2 := at_open kR 2
    have f3 := at_open kR 3
    have f4 := at_open kR 4
    have f5 := at_open kR 5
    clear hV kR
    go_wp2_with fail
    rw [← HV.out]
    refine bodyPost_ret (v := .tuple #[.agg #[.slice none 0 0, .int .i64 0, .slice none 0 0, .slice none 0 0, .slice none 0 0, .slice none 0 0], .bool false]) (by simp [results, Tryz.results29, go_sem, at_cell HE.out.1]) rfl ?_
    exact NwP.no HK.out HF.out
  · obtain rfl := (HYES.out rfl).symm
    clear HYES
    go_wp2_with fail
    refine (within_any m 1 4 _).mono ?_
    rintro e w3 ⟨rfl, hw3⟩
    obtain rfl := hw3.symm
    obtain ⟨bq, hbq⟩ : ∃ bq, inB m 1 4 = bq := ⟨_, rfl⟩
    rw [hbq]
    have HBQ : Hid ((decide (1 ≤ m) && decide (m ≤ 4)) = bq) := hbq
    clear hbq
    cases bq
    · obtain ⟨V, hV⟩ : ∃ V : World, V = (((((W0.setCell ⟨w.heap.size, 0, none⟩ (.slice none 0 0)).setCell ⟨w.heap.size, 1, none⟩ (.int .i64 0)).setCell ⟨w.heap.size, 2, none⟩ (.slice none 0 0)).setCell ⟨w.heap.size, 3, none⟩ (.slice none 0 0)).setCell ⟨w.heap.size, 4, none⟩ (.slice none 0 0)).setCell ⟨w.heap.size, 5, none⟩ (.slice none 0 0) := ⟨_, rfl⟩
      have HV : Hid (V = _) := hV
      have HE : Hid _ := world_put kR (.slice none 0 0) (.int .i64 0) (.slice none 0 0) (.slice none 0 0) (.slice none 0 0) (.slice none 0 0) hV
      have HF : Hid (Below w.heap.size w V) := d0.trans (HE.out.2.toBelow d0.size (Nat.le_refl _))
      have HK : Hid (nwOk n m = false) := by rw [Hid, nwOk, HN.out, HBQ.out]; rfl
      have p0 := at_cell kR 0
      have p1 := at_cell kR 1
      have p2 := at_cell kR 2
      have p3 := at_cell kR 3
      have p4 := at_cell kR 4
      have p5 := at_cell kR 5
      have f0 := at_open kR 0
      have f1 := at_open kR 1
      have f2 := at_open kR 2
      have f3 := at_open kR 3
      have f4 := at_open kR 4
      have f5 := at_open kR 5
      clear hV kR
      go_wp2_with fail
      rw [← HV.out]
      refine bodyPost_ret (v := .tuple #[.agg #[.slice none 0 0, .int .i64 0, .slice none 0 0, .slice none 0 0, .slice none 0 0, .slice none 0 0], .bool false]) (by simp [results, Tryz.results29, go_sem, at_cell HE.out.1]) rfl ?_
      exact NwP.no HK.out HF.out
    · have HOK : Hid (nwOk n m = true) := by rw [Hid, nwOk, HN.out, HBQ.out]; rfl
      have hm : 1 ≤ m ∧ m ≤ 4 := by have := HBQ.out; simpa using this
      obtain ⟨MC, hmkC, hownC⟩ := made_clients 4 (by omega)
      have HMKC : Hid (∀ W : World, (Instr.makeSlice 68 (.int .i64 4) (.int .i64 4)).run Tryz.prog W = .ok (.slice (some ⟨W.heap.size, 0, none⟩) 4 4) (W.alloc (.cells MC 152))) := fun W => by simpa using hmkC W
      have HOWC : Hid _ := hownC
      obtain ⟨MH, hmkH, hownH⟩ := made_houses 4 (by omega)
      have HMKH : Hid (∀ W : World, (Instr.makeSlice 64 (.int .i64 4) (.int .i64 4)).run Tryz.prog W = .ok (.slice (some ⟨W.heap.size, 0, none⟩) 4 4) (W.alloc (.cells MH 33))) := fun W => by simpa using hmkH W
      have HOWH : Hid _ := hownH
      clear hmkC hownC hmkH hownH
      go_upto_region 3 with fail
      obtain ⟨R, hR0⟩ : ∃ R : Nat → Value → World → Prop, R = fun j v X => match j with
        | 0 => ∃ g : Nat, v = .slice (some ⟨g, 0, none⟩) 4 4 ∧ X.ownsRow W0.heap.size 33 9 (.slice (some ⟨g, 0, none⟩) 4 4) (List.replicate 4 Hw.zero).length ((List.replicate 4 Hw.zero).flatMap hwC)
        | 1 => v = .agg #[.int .i64 1, .slice none 0 0]
        | 2 => ∃ g : Nat, v = .slice (some ⟨g, 0, none⟩) 4 4 ∧ X.ownsRow W0.heap.size 152 8 (.slice (some ⟨g, 0, none⟩) 4 4) (List.replicate 4 Cl.zero).length ((List.replicate 4 Cl.zero).flatMap clC)
        | 3 => ∃ gh gc : Nat, v = .agg #[.slice (some ⟨gh, 0, none⟩) 4 4, .int .i64 1, .slice none 0 0, .slice none 0 0, .slice (some ⟨gc, 0, none⟩) 4 4, .slice none 0 0] ∧ X.ownsRow W0.heap.size 33 9 (.slice (some ⟨gh, 0, none⟩) 4 4) (List.replicate 4 Hw.zero).length ((List.replicate 4 Hw.zero).flatMap hwC) ∧ X.ownsRow W0.heap.size 152 8 (.slice (some ⟨gc, 0, none⟩) 4 4) (List.replicate 4 Cl.zero).length ((List.replicate 4 Cl.zero).flatMap clC)
        | 4 => ∃ g : Nat, v = .pointer (some ⟨g, 0, none⟩) ∧ W0.heap.size ≤ g ∧ X.heap[g]? = some (.cells #[.slice none 0 0, .int .i64 0, .slice none 0 0, .slice none 0 0, .slice none 0 0, .slice none 0 0] 71 (0, 0))
        | _ => True := ⟨_, rfl⟩
      have hR : Hid _ := hR0
      clear hR0
      have RMO : ∀ X X', Below X.heap.size X X' → ∀ j v, R j v X → R j v X' := fun X X' hb j v => by
        rw [hR.out]
        match j with
        | 0 => exact fun ⟨g, e, ow⟩ => ⟨g, e, owns_below ow hb⟩
        | 1 => exact id
        | 2 => exact fun ⟨g, e, ow⟩ => ⟨g, e, owns_below ow hb⟩
        | 3 => exact fun ⟨g, g', e, ow, ow'⟩ => ⟨g, g', e, owns_below ow hb, owns_below ow' hb⟩
        | 4 => exact fun ⟨g, e, hg, k⟩ => ⟨g, e, hg, (hb.block _ (heap_lt k)).trans k⟩
        | _ + 5 => exact id
      refine wp_region_inv (I := RXs _ 5 6 20 R _ W0) (by kernel_rfl) (RXs.start _ 5 6 20 _ _ W0) ?_ ?_
      · intro L a y i hL hD hi h
        obtain ⟨X, h⟩ := h
        have hin : i < 6 := (ready_mem hi).1
        have hnot := (ready_mem hi).2.1
        have hc : i = 0 ∨ i = 1 ∨ i = 2 ∨ i = 3 ∨ i = 4 ∨ i = 5 := by omega
        rcases hc with rfl | rfl | rfl | rfl | rfl | rfl
        · have hn' : L.getD 5 false = false := hD.no 5 [3, 0] hnot (by kernel_rfl) rfl
          obtain rfl := h.pre hn'
          have hmy := HMKH.out y
          have hb : Below y.heap.size y (y.alloc (.cells MH 33)) := bw_alloc (Below.refl _ _)
          have hoy := HOWH.out y W0.heap.size h.bel.size
          refine wpOp_of rfl rfl ?_
          unfold Oper.wp
          go_simp
          exact h.val 0 17 _ _ (by decide) (by kernel_rfl) (of_decide_eq_true (by kernel_rfl)) (by kernel_rfl) (by kernel_rfl) hn' hb (by rw [hR.out]; exact ⟨_, rfl, hoy⟩) (RMO _ _ hb)
        · refine wpOp_of rfl rfl ?_
          unfold Oper.wp
          go_simp
          exact h.put 1 18 _ (by decide) (by kernel_rfl) (of_decide_eq_true (by kernel_rfl)) (by kernel_rfl) (by kernel_rfl) (by decide) (by decide) (by rw [hR.out]; exact rfl)
        · have hn' : L.getD 5 false = false := hD.no 5 [3, 2] hnot (by kernel_rfl) rfl
          obtain rfl := h.pre hn'
          have hmy := HMKC.out y
          have hb : Below y.heap.size y (y.alloc (.cells MC 152)) := bw_alloc (Below.refl _ _)
          have hoy := HOWC.out y W0.heap.size h.bel.size
          refine wpOp_of rfl rfl ?_
          unfold Oper.wp
          go_simp
          exact h.val 2 19 _ _ (by decide) (by kernel_rfl) (of_decide_eq_true (by kernel_rfl)) (by kernel_rfl) (by kernel_rfl) hn' hb (by rw [hR.out]; exact ⟨_, rfl, hoy⟩) (RMO _ _ hb)
        · have hn' : L.getD 5 false = false := hD.no 5 [3] hnot (by kernel_rfl) rfl
          obtain rfl := h.pre hn'
          have q0 := h.rel 0 17 (ready_dep hi (by kernel_rfl)) (by kernel_rfl)
          rw [hR.out] at q0
          have q1 := h.rel 1 18 (ready_dep hi (by kernel_rfl)) (by kernel_rfl)
          rw [hR.out] at q1
          have q1' : a.tmps.getD 18 undef = .agg #[.int .i64 1, .slice none 0 0] := q1
          have s18 : a.tmps[18]?.getD undef = .agg #[.int .i64 1, .slice none 0 0] := (Array.getD_eq_getD_getElem? ..).symm.trans q1'
          clear q1
          have q2 := h.rel 2 19 (ready_dep hi (by kernel_rfl)) (by kernel_rfl)
          rw [hR.out] at q2
          obtain ⟨gh, e17, ow⟩ := q0
          obtain ⟨gc, e19, oc⟩ := q2
          have s17 : a.tmps[17]?.getD undef = .slice (some ⟨gh, 0, none⟩) 4 4 := (Array.getD_eq_getD_getElem? ..).symm.trans e17
          have s19 : a.tmps[19]?.getD undef = .slice (some ⟨gc, 0, none⟩) 4 4 := (Array.getD_eq_getD_getElem? ..).symm.trans e19
          refine wpOp_of rfl rfl ?_
          unfold Oper.wp
          go_simp
          exact h.val 3 20 _ y (by decide) (by kernel_rfl) (of_decide_eq_true (by kernel_rfl)) (by kernel_rfl) (by kernel_rfl) hn' (Below.refl _ _) (by rw [hR.out]; exact ⟨gh, gc, rfl, ow, oc⟩) (fun _ _ q => q)
        · have hn' : L.getD 5 false = false := hD.no 5 [4] hnot (by kernel_rfl) rfl
          obtain rfl := h.pre hn'
          have hb : Below y.heap.size y (y.alloc (.cells #[.slice none 0 0, .int .i64 0, .slice none 0 0, .slice none 0 0, .slice none 0 0, .slice none 0 0] 71)) := bw_alloc (Below.refl _ _)
          refine wpOp_of rfl rfl ?_
          unfold Oper.wp
          go_simp
          exact h.val 4 6 _ _ (by decide) (by kernel_rfl) (of_decide_eq_true (by kernel_rfl)) (by kernel_rfl) (by kernel_rfl) hn' hb (by rw [hR.out]; exact ⟨_, rfl, h.bel.size, heap_alloc_new y _⟩) (RMO _ _ hb)
        · have hn' := not_done hnot
          obtain rfl := h.pre hn'
          have q6 := h.rel 3 20 (ready_dep hi (by kernel_rfl)) (by kernel_rfl)
          rw [hR.out] at q6
          have q7 := h.rel 4 6 (ready_dep hi (by kernel_rfl)) (by kernel_rfl)
          rw [hR.out] at q7
          obtain ⟨gh, gc, eV, ow, oc⟩ := q6
          obtain ⟨g7, eB, hg7, k7⟩ := q7
          refine wpOp_of rfl rfl (op_store 71 6 20 rfl rfl g7 eB _ eV #[.slice none 0 0, .int .i64 0, .slice none 0 0, .slice none 0 0, .slice none 0 0, .slice none 0 0] 71 k7 Tryz.infoWorld6 rfl (by simp [Value.oneCell']) ?_)
          exact h.store (by rw [hL]; exact of_decide_eq_true (by kernel_rfl)) hn' (by kernel_rfl) eB eV
      · intro L a y hL hD hr h
        obtain ⟨X, h⟩ := h
        have hall := all_done hL hr (by kernel_rfl)
        obtain ⟨gB, zs, eB, eV, rfl⟩ := h.fin (hall 5 (of_decide_eq_true (by kernel_rfl)))
        have qV := h.rel 3 20 (hall 3 (of_decide_eq_true (by kernel_rfl))) (by kernel_rfl)
        have qB := h.rel 4 6 (hall 4 (of_decide_eq_true (by kernel_rfl))) (by kernel_rfl)
        rw [hR.out] at qV qB
        obtain ⟨gh, gc, eV', owh, owc⟩ := qV
        obtain ⟨g7, eB', hg7, k7⟩ := qB
        have en : (Value.pointer (some ⟨gB, 0, none⟩)) = .pointer (some ⟨g7, 0, none⟩) := eB.symm.trans eB'
        have ez : Value.agg zs = .agg #[.slice (some ⟨gh, 0, none⟩) 4 4, .int .i64 1, .slice none 0 0, .slice none 0 0, .slice (some ⟨gc, 0, none⟩) 4 4, .slice none 0 0] := eV.symm.trans eV'
        simp only [Value.pointer.injEq, Option.some.injEq, Addr.mk.injEq, and_true] at en
        simp only [Value.agg.injEq] at ez
        subst en ez
        obtain ⟨Y, hY⟩ : ∃ Y, Y = X.setRow gB #[.slice (some ⟨gh, 0, none⟩) 4 4, .int .i64 1, .slice none 0 0, .slice none 0 0, .slice (some ⟨gc, 0, none⟩) 4 4, .slice none 0 0] := ⟨_, rfl⟩
        have uY : Upto gB X Y := by rw [hY]; exact row_upto
        have kBY : Y.heap[gB]? = some (.cells #[.slice (some ⟨gh, 0, none⟩) 4 4, .int .i64 1, .slice none 0 0, .slice none 0 0, .slice (some ⟨gc, 0, none⟩) 4 4, .slice none 0 0] 71 (0, 0)) := by rw [hY]; exact setRow_row k7
        have DY : Below W0.heap.size W0 Y := h.bel.trans (uY.toBelow h.bel.size hg7)
        have hms0 : nwMs m 0 = [] := by simp [nwMs]
        have owX : OwnWd W0.heap.size X (.slice (some ⟨gh, 0, none⟩) 4 4) (.slice none 0 0) (.slice (some ⟨gc, 0, none⟩) 4 4) (List.replicate 4 Hw.zero) [] (List.replicate 4 Cl.zero) :=
          ⟨⟨owh, fun x hx => by rw [List.eq_of_mem_replicate hx]; exact Hw.Own.zero _ _, fun x hx => by rw [List.eq_of_mem_replicate hx]; exact fun g h => (by rcases h with h | h <;> cases h), List.pairwise_replicate.2 (.inr (fun i h => absurd h (Hw.zero_in i)))⟩, ⟨owns_nil _ _ _ _⟩, owc, fun x hx i hi => by rw [List.eq_of_mem_replicate hx] at hi; exact absurd hi (Hw.zero_in i)⟩
        have owY : OwnWd W0.heap.size Y (.slice (some ⟨gh, 0, none⟩) 4 4) (.slice none 0 0) (.slice (some ⟨gc, 0, none⟩) 4 4) (List.replicate 4 Hw.zero) (nwMs m 0) (List.replicate 4 Cl.zero) := by rw [hms0]; exact owX.box k7 uY
        have hfr := h.frame [17, 18, 19, 20, 6] (by kernel_rfl)
        obtain ⟨f, hf⟩ : ∃ f : Nat → Value, (fun s => a.tmps.getD s undef) = f := ⟨_, rfl⟩
        have hB6 : f 6 = .pointer (some ⟨gB, 0, none⟩) := by rw [← hf]; exact eB
        rw [hf] at hfr
        have HS : Hid _ := And.intro kBY (And.intro owY DY)
        have hgB : W0.heap.size ≤ gB := hg7
        rw [← hY]
        clear hf h hall hr hD hL eB eV eB' eV' owh owc owX k7 RMO hR R HMKC HMKH HOWC HOWH hY uY kBY owY DY hms0 hg7
        subst hfr
        simp only [Act.puts, Act.put, List.setIfInBounds_toArray, List.set_cons_succ, List.set_cons_zero]
        rw [hB6]
        generalize f 17 = u17
        generalize f 18 = u18
        generalize f 19 = u19
        generalize f 20 = u20
        clear hB6 f
        show Exit.then _ _ _ _ _
        go_wp2_with fail
        go_loopw [22] (fun i wr => ∃ (j : Nat) (hs : List Hw) (om : Option Addr) (cm : Nat), (j : Int) ≤ m ∧ i = .int .i64 j ∧ wr.heap[gB]? = some (.cells #[.slice (some ⟨gh, 0, none⟩) 4 4, .int .i64 1, .slice om (nwMs m j).length cm, .slice none 0 0, .slice (some ⟨gc, 0, none⟩) 4 4, .slice none 0 0] 71 (0, 0)) ∧ hs.map Hw.pl = nwPart n m st j ∧ OwnWd W0.heap.size wr (.slice (some ⟨gh, 0, none⟩) 4 4) (.slice om (nwMs m j).length cm) (.slice (some ⟨gc, 0, none⟩) 4 4) hs (nwMs m j) (List.replicate 4 Cl.zero) ∧ Below W0.heap.size W0 wr) (fun i _ => m.toNat - (intOf i).toNat)
        case atStart => exact ⟨0, List.replicate 4 Hw.zero, none, 0, by omega, rfl, by rw [show (nwMs m 0).length = 0 by simp [nwMs]]; exact HS.out.1, rfl, by rw [show (nwMs m 0).length = 0 by simp [nwMs]]; exact HS.out.2.1, HS.out.2.2⟩
        case round =>
          obtain ⟨j, hs, om, cm, hj, rfl, kB, hpl, ow, hb⟩ := hrel
          clear HS
          by_cases hjm : (j : Int) < m
          · have hj4 : j < 4 := by omega
            have HP : Hid _ := hpl
            have hlen : hs.length = 4 := by have h := congrArg List.length hpl; rw [List.length_map, nwPart_len (by omega)] at h; exact h
            have hjl : j < hs.length := by omega
            have HJ : Hid (j < hs.length) := hjl
            have hrow : wr.ownsRow W0.heap.size 33 9 (.slice (some ⟨gh, 0, none⟩) 4 4) hs.length (hs.flatMap hwC) := ow.h.row
            have hgl := hrow.lt gh rfl
            have hnB : gh ≠ gB := fun e => own_not_box hrow kB (by decide) (by rw [e]; rfl)
            have hspan := ow.span
            have HOW : Hid _ := ow
            have HROW : Hid _ := hrow
            have lB := heap_lt kB
            have hW0 := hb.size
            clear hpl hlen ow hrow hjl
            go_upto_region 7 with fail
            obtain ⟨G, hG0⟩ : ∃ G : Value → World → World, G = fun v X => match v with
              | .agg zs => (((((((((X.setCell ⟨gh, j * 9, none⟩ (zs.getD 0 undef)).setCell ⟨gh, j * 9 + 1, none⟩ (zs.getD 1 undef)).setCell ⟨gh, j * 9 + 2, none⟩ (zs.getD 2 undef)).setCell ⟨gh, j * 9 + 3, none⟩ (zs.getD 3 undef)).setCell ⟨gh, j * 9 + 4, none⟩ (zs.getD 4 undef)).setCell ⟨gh, j * 9 + 5, none⟩ (zs.getD 5 undef)).setCell ⟨gh, j * 9 + 6, none⟩ (zs.getD 6 undef)).setCell ⟨gh, j * 9 + 7, none⟩ (zs.getD 7 undef)).setCell ⟨gh, j * 9 + 8, none⟩ (zs.getD 8 undef))
              | _ => X := ⟨_, rfl⟩
            have hG : Hid _ := hG0
            clear hG0
            obtain ⟨R, hR0⟩ : ∃ R : Nat → Value → World → Prop, R = fun q v X => match q with
              | 0 => v = .pointer (some ⟨gB, 0, none⟩)
              | 1 => v = .slice (some ⟨gh, 0, none⟩) 4 4
              | 2 => v = .int .i64 (j : Int)
              | 3 => v = .int .i64 n
              | 4 => ∃ y : Hw, y.pl = (true, n, 0, st) ∧ v = .tuple #[.agg #[.bool y.up, .int .i64 y.pg, .slice y.lo 0 y.lc, .int .i64 y.ac, .slice y.o1 y.st.s.cs.length y.c1, .slice y.o2 y.st.s.ps.length y.c2, .slice y.o3 0 y.c3, .slice y.o4 y.st.ts.length y.c4, .slice y.o5 y.st.rs.length y.c5], .bool true] ∧ y.Own wr.heap.size X ∧ y.Ap
              | 5 => ∃ y : Hw, y.pl = (true, n, 0, st) ∧ v = .tuple #[.agg #[.bool y.up, .int .i64 y.pg, .slice y.lo 0 y.lc, .int .i64 y.ac, .slice y.o1 y.st.s.cs.length y.c1, .slice y.o2 y.st.s.ps.length y.c2, .slice y.o3 0 y.c3, .slice y.o4 y.st.ts.length y.c4, .slice y.o5 y.st.rs.length y.c5], .bool true] ∧ y.Own wr.heap.size X ∧ y.Ap
              | 6 => ∃ y : Hw, y.pl = (true, n, 0, st) ∧ v = .agg #[.bool y.up, .int .i64 y.pg, .slice y.lo 0 y.lc, .int .i64 y.ac, .slice y.o1 y.st.s.cs.length y.c1, .slice y.o2 y.st.s.ps.length y.c2, .slice y.o3 0 y.c3, .slice y.o4 y.st.ts.length y.c4, .slice y.o5 y.st.rs.length y.c5] ∧ y.Own wr.heap.size X ∧ y.Ap
              | 7 => v = .bool true
              | 8 => v = .pointer (some ⟨gh, j * 9, none⟩)
              | _ => True := ⟨_, rfl⟩
            have hR : Hid _ := hR0
            clear hR0
            have RMO : ∀ X X', Below X.heap.size X X' → ∀ q v, R q v X → R q v X' := fun X X' hb q v => by
              rw [hR.out]
              match q with
              | 0 => exact id
              | 1 => exact id
              | 2 => exact id
              | 3 => exact id
              | 4 => exact fun ⟨y, e1, e2, o, p⟩ => ⟨y, e1, e2, o.below hb, p⟩
              | 5 => exact fun ⟨y, e1, e2, o, p⟩ => ⟨y, e1, e2, o.below hb, p⟩
              | 6 => exact fun ⟨y, e1, e2, o, p⟩ => ⟨y, e1, e2, o.below hb, p⟩
              | 7 => exact id
              | 8 => exact id
              | _ + 9 => exact id
            refine wp_region_inv (I := RZs _ 9 31 G R _ wr) (by kernel_rfl) (RZs.start _ 9 31 G _ _ wr) ?_ ?_
            · intro L a x i hL hD hi h
              obtain ⟨X, h⟩ := h
              have hin : i < 10 := (ready_mem hi).1
              have hnot := (ready_mem hi).2.1
              have hc : i = 0 ∨ i = 1 ∨ i = 2 ∨ i = 3 ∨ i = 4 ∨ i = 5 ∨ i = 6 ∨ i = 7 ∨ i = 8 ∨ i = 9 := by omega
              have i0 : (0 : Int) ≤ (j : Int) := by omega
              have i1 : (j : Int) < 4 := by omega
              rcases hc with rfl | rfl | rfl | rfl | rfl | rfl | rfl | rfl | rfl | rfl
              · have r : a.tmps.getD 6 undef = .pointer (some ⟨gB, 0, none⟩) := h.old 6 (by kernel_rfl)
                refine wpOp_of rfl rfl ?_
                unfold Oper.wp
                go_simp
                exact h.put 0 26 _ (by decide) (by kernel_rfl) (of_decide_eq_true (by kernel_rfl)) (by kernel_rfl) (by kernel_rfl) (by decide) (by rw [hR.out]; exact rfl)
              · have hn' : L.getD 9 false = false := hD.no 9 [8, 1] hnot (by kernel_rfl) rfl
                obtain rfl := h.pre hn'
                have r_ := h.rel 0 26 (ready_dep hi (by kernel_rfl)) (by kernel_rfl)
                rw [hR.out] at r_
                have r : a.tmps.getD 26 undef = .pointer (some ⟨gB, 0, none⟩) := r_
                clear r_
                have kBx := (h.bel.block _ lB).trans kB
                have c0 := at_cell kBx 0
                refine wpOp_of rfl rfl ?_
                unfold Oper.wp
                go_simp
                exact h.put 1 27 _ (by decide) (by kernel_rfl) (of_decide_eq_true (by kernel_rfl)) (by kernel_rfl) (by kernel_rfl) (by decide) (by rw [hR.out]; exact rfl)
              · have r : a.tmps.getD 7 undef = .int .i64 (j : Int) := h.old 7 (by kernel_rfl)
                refine wpOp_of rfl rfl (op_move17 7 rfl ?_)
                exact h.put 2 28 _ (by decide) (by kernel_rfl) (of_decide_eq_true (by kernel_rfl)) (by kernel_rfl) (by kernel_rfl) (by decide) (by rw [hR.out]; exact r)
              · have r : a.tmps.getD 0 undef = .int .i64 n := h.old 0 (by kernel_rfl)
                refine wpOp_of rfl rfl (op_move17 0 rfl ?_)
                exact h.put 3 29 _ (by decide) (by kernel_rfl) (of_decide_eq_true (by kernel_rfl)) (by kernel_rfl) (by kernel_rfl) (by decide) (by rw [hR.out]; exact r)
              · have hn' : L.getD 9 false = false := hD.no 9 [6, 5, 4] hnot (by kernel_rfl) rfl
                obtain rfl := h.pre hn'
                have r_ := h.rel 3 29 (ready_dep hi (by kernel_rfl)) (by kernel_rfl)
                rw [hR.out] at r_
                have r : a.tmps.getD 29 undef = .int .i64 n := r_
                clear r_
                have Dx : Below w.heap.size w x := d0.trans ((hb.trans (h.bel.mono hb.size)).mono d0.size)
                have hbs := h.bel.size
                refine wpOp_of rfl rfl ?_
                unfold Oper.wp
                go_simp
                go_at_call 8
                refine (implNewHouse_nil n x ad ab (HVS.out.below Dx) (VarB.below HVB.out Dx) n st true HN.out).mono ?_
                rintro e x2 ⟨lo, lc, o1, c1, o2, c2, o3, c3, o4, c4, o5, c5, rfl, OG, apG, b⟩
                exact h.val 4 30 _ x2 (by decide) (by kernel_rfl) (of_decide_eq_true (by kernel_rfl)) (by kernel_rfl) (by kernel_rfl) hn' b (by rw [hR.out]; exact ⟨⟨true, n, 0, st, lo, lc, o1, c1, o2, c2, o3, c3, o4, c4, o5, c5⟩, rfl, rfl, OwnH0.mono OG hbs, apG⟩) (RMO _ _ b)
              · have r := h.rel 4 30 (ready_dep hi (by kernel_rfl)) (by kernel_rfl)
                rw [hR.out] at r
                refine wpOp_of rfl rfl (op_move17 30 rfl ?_)
                exact h.put 5 25 _ (by decide) (by kernel_rfl) (of_decide_eq_true (by kernel_rfl)) (by kernel_rfl) (by kernel_rfl) (by decide) (by rw [hR.out]; exact r)
              · have hn' : L.getD 9 false = false := hD.no 9 [6] hnot (by kernel_rfl) rfl
                obtain rfl := h.pre hn'
                have r := h.rel 5 25 (ready_dep hi (by kernel_rfl)) (by kernel_rfl)
                rw [hR.out] at r
                obtain ⟨y, hy, ea, oy, ay⟩ := r
                refine wpOp_of rfl rfl ?_
                unfold Oper.wp
                go_simp
                exact h.val 6 31 _ x (by decide) (by kernel_rfl) (of_decide_eq_true (by kernel_rfl)) (by kernel_rfl) (by kernel_rfl) hn' (Below.refl _ _) (by rw [hR.out]; exact ⟨y, hy, rfl, oy, ay⟩) (fun _ _ q => q)
              · have r := h.rel 5 25 (ready_dep hi (by kernel_rfl)) (by kernel_rfl)
                rw [hR.out] at r
                obtain ⟨y, hy, ea, oy, ay⟩ := r
                clear hy oy ay
                refine wpOp_of rfl rfl ?_
                unfold Oper.wp
                go_simp
                exact h.put 7 32 _ (by decide) (by kernel_rfl) (of_decide_eq_true (by kernel_rfl)) (by kernel_rfl) (by kernel_rfl) (by decide) (by rw [hR.out]; exact rfl)
              · have r1_ := h.rel 1 27 (ready_dep hi (by kernel_rfl)) (by kernel_rfl)
                rw [hR.out] at r1_
                have r1 : a.tmps.getD 27 undef = .slice (some ⟨gh, 0, none⟩) 4 4 := r1_
                clear r1_
                have r2_ := h.rel 2 28 (ready_dep hi (by kernel_rfl)) (by kernel_rfl)
                rw [hR.out] at r2_
                have r2 : a.tmps.getD 28 undef = .int .i64 (j : Int) := r2_
                clear r2_
                refine wpOp_of rfl rfl ?_
                unfold Oper.wp
                go_simp
                exact h.put 8 33 _ (by decide) (by kernel_rfl) (of_decide_eq_true (by kernel_rfl)) (by kernel_rfl) (by kernel_rfl) (by decide) (by rw [hR.out]; exact rfl)
              · have hn' := not_done hnot
                obtain rfl := h.pre hn'
                have r := h.rel 6 31 (ready_dep hi (by kernel_rfl)) (by kernel_rfl)
                rw [hR.out] at r
                obtain ⟨y, hy, ea, oy, ay⟩ := r
                clear hy oy ay
                have r2_ := h.rel 8 33 (ready_dep hi (by kernel_rfl)) (by kernel_rfl)
                rw [hR.out] at r2_
                have r2 : a.tmps.getD 33 undef = .pointer (some ⟨gh, j * 9, none⟩) := r2_
                clear r2_
                obtain ⟨⟨t0, t1, t2, t3, t4, t5, t6, t7, t8⟩, f0, f1, f2, f3, f4, f5, f6, f7, f8⟩ := own_nineH (owns_below HROW.out h.bel) j HJ.out
                refine wpOp_of rfl rfl ?_
                unfold Oper.wp
                go_simp
                refine h.store (by rw [hL]; exact of_decide_eq_true (by kernel_rfl)) hn' (by kernel_rfl) ?_
                rw [ea, hG.out]
                rfl
            · intro L a x hL hD hr h
              obtain ⟨X, h⟩ := h
              have hall := all_done hL hr (by kernel_rfl)
              have hxe := h.fin (hall 9 (of_decide_eq_true (by kernel_rfl)))
              have r := h.rel 6 31 (hall 6 (of_decide_eq_true (by kernel_rfl))) (by kernel_rfl)
              rw [hR.out] at r
              obtain ⟨y, hy, ea, oy, ay⟩ := r
              rw [ea, hG.out] at hxe
              have hxe2 : x = (((((((((X.setCell ⟨gh, j * 9, none⟩ (.bool y.up)).setCell ⟨gh, j * 9 + 1, none⟩ (.int .i64 y.pg)).setCell ⟨gh, j * 9 + 2, none⟩ (.slice y.lo 0 y.lc)).setCell ⟨gh, j * 9 + 3, none⟩ (.int .i64 y.ac)).setCell ⟨gh, j * 9 + 4, none⟩ (.slice y.o1 y.st.s.cs.length y.c1)).setCell ⟨gh, j * 9 + 5, none⟩ (.slice y.o2 y.st.s.ps.length y.c2)).setCell ⟨gh, j * 9 + 6, none⟩ (.slice y.o3 0 y.c3)).setCell ⟨gh, j * 9 + 7, none⟩ (.slice y.o4 y.st.ts.length y.c4)).setCell ⟨gh, j * 9 + 8, none⟩ (.slice y.o5 y.st.rs.length y.c5)) := hxe
              have hbX := h.bel
              have owX := HOW.out.below hbX
              have kBX := (hbX.block _ lB).trans kB
              have hap : ∀ b ∈ hs, ∀ i, b.In i → ¬ y.In i := fun b hb' i h1 h2 => by
                have h3 := (hspan i (.inl (.inr ⟨b, hb', h1⟩))).2
                have h4 := (oy.span i h2).1
                omega
              have hym : ∀ i, y.In i → (Value.slice om (nwMs m j).length cm).ownBlock ≠ some i := fun i h1 h2 => by
                have h3 := (hspan i (.inr (.inl h2))).2
                have h4 := (oy.span i h1).1
                omega
              have oy0 := oy.mono hW0
              obtain ⟨owx, ux⟩ := owX.setHouse HJ.out y oy0 ay hap hym
              rw [← hxe2] at owx ux
              have kBx := (ux.block _ (heap_lt kBX) (fun e => hnB e.symm)).trans kBX
              have Dx : Below W0.heap.size W0 x := (hb.trans (hbX.mono hb.size)).trans (ux.toBelow (Nat.le_trans hb.size hbX.size) hgl.1)
              have plx : (hs.set j y).map Hw.pl = nwPart n m st (j + 1) := by rw [List.map_set, HP.out, hy]; exact nwPart_set hj4 hjm
              have HPL : Hid _ := plx
              have hfr := h.frame [25, 26, 27, 28, 29, 30, 31, 32, 33] (by kernel_rfl)
              obtain ⟨f, hf⟩ : ∃ f : Nat → Value, (fun s => a.tmps.getD s undef) = f := ⟨_, rfl⟩
              rw [hf] at hfr
              clear hf h hall hr hD hL ea hy oy ay hxe hxe2 hbX owX kBX hap hym oy0 ux plx RMO hR R hG G HROW HOW hspan HP kB lB hgl hb HJ hW0
              subst hfr
              simp only [Act.puts, Act.put, List.setIfInBounds_toArray, List.set_cons_succ, List.set_cons_zero]
              generalize f 25 = u25
              generalize f 26 = u26
              generalize f 27 = u27
              generalize f 28 = u28
              generalize f 29 = u29
              generalize f 30 = u30
              generalize f 31 = u31
              generalize f 32 = u32
              generalize f 33 = u33
              clear f
              obtain ⟨hs2, hhs⟩ : ∃ hs2, hs.set j y = hs2 := ⟨_, rfl⟩
              rw [hhs] at owx HPL
              clear hhs
              show Exit.then _ _ _ _ _
              have k2 := at_cell kBx 2
              obtain ⟨X2, hX⟩ : ∃ X2 : World, X2 = x.alloc (.cells #[.int .i64 j] 2) := ⟨_, rfl⟩
              have HX : Hid (X2 = _) := hX
              have bX : Below x.heap.size x X2 := by rw [hX]; exact bw_alloc (Below.refl _ _)
              have owX := owx.below bX
              have kBX := (bX.block _ (heap_lt kBx)).trans kBx
              have hnew : ∀ (q : Nat) (u : Value), [Value.int .i64 j][q]? = some u → X2.cell? ((⟨x.heap.size, 0, none⟩ : Addr).add q) = some u := by rw [hX]; exact new_one x (.int .i64 j) 2
              have hbase : W0.heap.size ≤ X2.heap.size := Nat.le_trans Dx.size bX.size
              have HNW : Hid _ := hnew
              have HKK : Hid _ := And.intro kBX (And.intro owX (bw_call Dx bX))
              have hmrow : X2.ownsRow W0.heap.size 2 1 (.slice om (nwMs m j).length cm) (nwMs m j).length ((nwMs m j).map (Value.int .i64)) := owX.m.c
              have HMR : Hid _ := hmrow
              have hml0 : ∀ k, (Value.slice om (nwMs m j).length cm).ownBlock = some k → W0.heap.size ≤ k := fun k hk => (hmrow.lt k hk).1
              have hml : (nwMs m j).length ≤ 4 := by rw [nwMs_len]; omega
              clear hX bX owX kBX hnew kBx owx Dx hmrow
              go_wp2_with (at_builtin; rw [← HX.out]; refine wpList_append_lies _ rfl _ _ 23 rfl W0.heap.size 2 j0 (.int .i64 0) 1 8 Tryz.underlying23 ji jz0 jz1 jz2 rfl (by decide) _ (nwMs m j).length ((nwMs m j).map (Value.int .i64)) rfl HMR.out ⟨x.heap.size, 0, none⟩ 1 1 [.int .i64 j] rfl rfl ?c1 ?c2 (by decide) ?c3 ?c4 ?c5 _ rfl ?_)
              try (case c1 => first | exact HNW.out | (intro q u hq; have h := HNW.out q u hq; rw [addr_add] at h; exact h))
              try (case c2 => intro u hu; simp at hu; subst hu; rfl)
              try (case c3 => unfold maxLen; omega)
              try (case c4 => omega)
              try (case c5 => exact hbase)
              intro g7 cp7 w7 hown7 hgrow7 hat7 hlt7
              have o7 : Only (fun k => (Value.slice om (nwMs m j).length cm).ownBlock = some k) X2 w7 := only_grown hgrow7
              have kB7 := (o7.block _ (heap_lt HKK.out.1) (fun e => own_not_box HMR.out HKK.out.1 (by decide) e)).trans HKK.out.1
              have ow7 := HKK.out.2.1.member (H := X2.heap.size) j hown7 hgrow7 hat7 (Nat.le_refl _)
              have D7 : Below W0.heap.size W0 w7 := HKK.out.2.2.trans (o7.toBelow hbase hml0)
              obtain ⟨Wf, hWf⟩ : ∃ Wf : World, Wf = w7.setCell ⟨gB, 2, none⟩ (.slice (some ⟨g7, 0, none⟩) ((nwMs m j).length + 1) cp7) := ⟨_, rfl⟩
              have HWf : Hid (Wf = _) := hWf
              obtain ⟨kBf, uf⟩ := world_members kB7 (.slice (some ⟨g7, 0, none⟩) ((nwMs m j).length + 1) cp7) hWf
              have owf := ow7.box kB7 uf
              have Df : Below W0.heap.size W0 Wf := D7.trans (uf.toBelow D7.size hgB)
              have hse : nwMs m j ++ [(j : Int)] = nwMs m (j + 1) := (nwMs_succ hjm).symm
              have hsl : (nwMs m j).length + 1 = (nwMs m (j + 1)).length := by rw [← hse, List.length_append]; rfl
              rw [hse] at owf
              rw [hsl] at owf kBf
              have HF : Hid _ := And.intro kBf (And.intro HPL.out (And.intro owf Df))
              have r0 := at_cell kB7 2
              have r0' := at_open kB7 2
              clear hown7 hgrow7 hat7 o7 ow7 D7 hWf kBf uf owf Df hse hsl HPL HKK HMR HNW hml0 k2 kB7
              go_wp2_with fail
              rw [← HWf.out]
              clear HWf r0 r0'
              go_roundw
              case rel => exact ⟨j + 1, _, _, _, by omega, by go_num, HF.out⟩
              case measure => simp [intOf]; omega
          · have hje : (j : Int) = m := by omega
            have hme : nwMs m j = nwMs m 4 := nwMs_end hm hje
            have hpe := nwPart_end (n := n) (st := st) hm hje
            rw [hme] at kB ow
            have HPE : Hid (hs.map Hw.pl = (List.range 4).map (nwAt n m st)) := hpl.trans hpe
            clear hpl hpe hme
            have kR5 := (hb.block _ lR).trans kR
            have D5 := d0.trans (hb.mono d0.size)
            have hne : w.heap.size ≠ gB := by omega
            obtain ⟨V, hV⟩ : ∃ V : World, V = (((((wr.setCell ⟨w.heap.size, 0, none⟩ (.slice (some ⟨gh, 0, none⟩) 4 4)).setCell ⟨w.heap.size, 1, none⟩ (.int .i64 1)).setCell ⟨w.heap.size, 2, none⟩ (.slice om (nwMs m 4).length cm)).setCell ⟨w.heap.size, 3, none⟩ (.slice none 0 0)).setCell ⟨w.heap.size, 4, none⟩ (.slice (some ⟨gc, 0, none⟩) 4 4)).setCell ⟨w.heap.size, 5, none⟩ (.slice none 0 0) := ⟨_, rfl⟩
            have HV : Hid (V = _) := hV
            have HE : Hid _ := world_put kR5 (.slice (some ⟨gh, 0, none⟩) 4 4) (.int .i64 1) (.slice om (nwMs m 4).length cm) (.slice none 0 0) (.slice (some ⟨gc, 0, none⟩) 4 4) (.slice none 0 0) hV
            have owV := (ow.upto HE.out.2 (by omega)).mono d0.size
            have HF : Hid _ := And.intro owV (D5.trans (HE.out.2.toBelow D5.size (Nat.le_refl _)))
            have p0 := at_cell kR5 0
            have f0 := at_open kR5 0
            have q0 := at_cell kB 0
            have p1 := at_cell kR5 1
            have f1 := at_open kR5 1
            have q1 := at_cell kB 1
            have p2 := at_cell kR5 2
            have f2 := at_open kR5 2
            have q2 := at_cell kB 2
            have p3 := at_cell kR5 3
            have f3 := at_open kR5 3
            have q3 := at_cell kB 3
            have p4 := at_cell kR5 4
            have f4 := at_open kR5 4
            have q4 := at_cell kB 4
            have p5 := at_cell kR5 5
            have f5 := at_open kR5 5
            have q5 := at_cell kB 5
            clear hV kR5 D5 owV kB ow
            go_wp2_with fail
            rw [← HV.out]
            refine bodyPost_ret (v := .tuple #[.agg #[.slice (some ⟨gh, 0, none⟩) 4 4, .int .i64 1, .slice om (nwMs m 4).length cm, .slice none 0 0, .slice (some ⟨gc, 0, none⟩) 4 4, .slice none 0 0], .bool true]) (by simp [results, Tryz.results29, go_sem, at_cell HE.out.1]) rfl ?_
            exact NwP.yes HOK.out HF.out.1 (by rw [HN.out]; exact HPE.out) HF.out.2
end Go.Proofs.YtibhepekmihagaaGreatDoor

