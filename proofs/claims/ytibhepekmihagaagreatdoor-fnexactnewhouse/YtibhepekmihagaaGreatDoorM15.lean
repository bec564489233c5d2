/-
  Contracts and plain laws, one chapter behind the other.
-/
import Derived.Test.YtibhepekmihagaaGreatDoorM03
import Derived.Test.YtibhepekmihagaaGreatDoorM14
namespace Go.Proofs.YtibhepekmihagaaGreatDoor
open Go.RowKit

set_option linter.unusedVariables false


/-! ### Plain -/
def markB (k : Int) (b : Bk) : Bk := ⟨markS k, k + 1, b.m, marksR (k + 1 + 1) b.rs.length, (k + 1 + 1) % 3 == 0, k + 1 + 1 + 3 * b.rs.length + 1⟩

def markN (k : Int) (b : Bk) : Int := k + 1 + 1 + 3 * b.rs.length + 1 + 1

def marksB (k : Int) : List Bk → List Bk
  | [] => []
  | b :: t => markB k b :: marksB (markN k b) t

def marksE (k : Int) : List Bk → Int
  | [] => k
  | b :: t => marksE (markN k b) t

theorem marksE_ge (bs : List Bk) : ∀ k : Int, k ≤ marksE k bs := by
  induction bs with
  | nil => intro k; exact Int.le_refl _
  | cons b t ih => intro k; have := ih (markN k b); rw [marksE]; unfold markN at *; omega

theorem marksE_append (xs ys : List Bk) : ∀ k : Int, marksE k (xs ++ ys) = marksE (marksE k xs) ys := by
  induction xs with
  | nil => intro k; rfl
  | cons b t ih => intro k; exact ih _

theorem marksB_append (xs ys : List Bk) : ∀ k : Int, marksB k (xs ++ ys) = marksB k xs ++ marksB (marksE k xs) ys := by
  induction xs with
  | nil => intro k; rfl
  | cons b t ih => intro k; simp only [List.cons_append, marksB, marksE, ih]

theorem marksB_length (bs : List Bk) : ∀ k : Int, (marksB k bs).length = bs.length := by
  induction bs with
  | nil => intro k; rfl
  | cons b t ih => intro k; simp [marksB, ih]

theorem marksE_take (bs : List Bk) (k : Int) (j : Nat) (hj : j < bs.length) : marksE k (bs.take (j + 1)) = markN (marksE k (bs.take j)) bs[j] := by
  rw [List.take_succ_eq_append_getElem hj, marksE_append]; rfl

theorem marksB_take (bs : List Bk) (k : Int) (j : Nat) (hj : j < bs.length) : marksB k (bs.take (j + 1)) = marksB k (bs.take j) ++ [markB (marksE k (bs.take j)) bs[j]] := by
  rw [List.take_succ_eq_append_getElem hj, marksB_append]; rfl

theorem marksE_le (bs : List Bk) (k : Int) (j : Nat) : marksE k (bs.take j) ≤ marksE k bs := by
  have h := marksE_ge (bs.drop j) (marksE k (bs.take j))
  rwa [← marksE_append, List.take_append_drop] at h

theorem marksB_ms (bs : List Bk) : ∀ k : Int, (marksB k bs).map Bk.m = bs.map Bk.m := by
  induction bs with
  | nil => intro k; rfl
  | cons b t ih => intro k; simp [marksB, markB, ih]

def totB (bs : List Bk) : Nat := bs.foldr (fun b n => b.rs.length + n) 0

theorem marksE_tot (bs : List Bk) : ∀ k : Int, marksE k bs = k + 4 * bs.length + 3 * totB bs := by
  induction bs with
  | nil => intro k; simp [marksE, totB]
  | cons b t ih =>
    intro k
    have h : totB (b :: t) = b.rs.length + totB t := rfl
    rw [marksE, ih, h, markN, List.length_cons]
    omega

theorem apart_ms {bs ms : List Bk} (h : ms.map Bk.m = bs.map Bk.m) (a : ApartM bs) : ApartM ms := by
  have key : ∀ l : List Bk, ApartM l ↔ (l.map Bk.m).Pairwise (fun x y => ∀ g, x.ownBlock = some g → y.ownBlock ≠ some g) := fun l => by rw [List.pairwise_map]; exact Iff.rfl
  exact (key ms).2 (by rw [h]; exact (key bs).1 a)

/-- Another book's map lies in another block. -/
theorem apart_at {bs : List Bk} (h : ApartM bs) (i j : Nat) (hi : i < bs.length) (hj : j < bs.length) (hne : i ≠ j) (g : Nat) (hg : bs[i].m.ownBlock = some g) : bs[j].m.ownBlock ≠ some g := by
  rcases Nat.lt_or_gt_of_ne hne with q | q
  · exact (List.pairwise_iff_getElem.1 h i j hi hj q) g hg
  · exact fun hx => (List.pairwise_iff_getElem.1 h j i hj hi q) g hx hg

/-- Cells of a row of books are written: the maps stay. -/
theorem maps_book {w w' : World} {base g n cap : Nat} {xs : List Bk} (h : w.ownsRow base 133 5 (.slice (some ⟨g, 0, none⟩) n cap) xs.length (xs.flatMap bookC)) (u : Upto g w w') {v : Value} {k : Nat} {ys : List Value} (hm : w.ownsRow base 185 3 v k ys) : w'.ownsRow base 185 3 v k ys := by
  obtain ⟨cur, hcur⟩ : ∃ cur, w.heap[g]? = some (.cells cur 133 (0, 0)) := by
    rcases h.2 with ⟨e, _⟩ | ⟨g', cap', cur, e, _, hh, _⟩
    · simp at e
    · simp only [Value.slice.injEq, Option.some.injEq, Addr.mk.injEq, and_true] at e
      obtain ⟨rfl, _⟩ := e
      exact ⟨cur, hh⟩
  exact own_rng_not hm (fun q hq hqv => u.block q hq (fun hx => own_not_box hm hcur (by decide) (by rw [← hx]; exact hqv)))

theorem row_maps {w w' : World} {base g n cap : Nat} {xs : List Bk} (h : w.ownsRow base 133 5 (.slice (some ⟨g, 0, none⟩) n cap) xs.length (xs.flatMap bookC)) {v : Value} {k : Nat} {ys : List Value} (hm : w.ownsRow base 185 3 v k ys) (hh : ∀ i, i < w.heap.size → v.ownBlock ≠ some i → w'.heap[i]? = w.heap[i]?) : w'.ownsRow base 133 5 (.slice (some ⟨g, 0, none⟩) n cap) xs.length (xs.flatMap bookC) := by
  obtain ⟨cur, hcur⟩ : ∃ cur, w.heap[g]? = some (.cells cur 133 (0, 0)) := by
    rcases h.2 with ⟨e, _⟩ | ⟨g', cap', cur, e, _, hh, _⟩
    · simp at e
    · simp only [Value.slice.injEq, Option.some.injEq, Addr.mk.injEq, and_true] at e
      obtain ⟨rfl, _⟩ := e
      exact ⟨cur, hh⟩
  refine own_rng_not h (fun q hq hqv => hh q hq (fun hx => ?_))
  have hqg : q = g := by simpa [Value.ownBlock, eq_comm] using hqv
  subst hqg
  exact own_not_box hm hcur (by decide) hx

/-- The blocks of a row of books: its own, and its maps'. -/
def BkW (g : Nat) (bks : List Bk) (i : Nat) : Prop := i = g ∨ ∃ b ∈ bks, b.m.ownBlock = some i

set_option maxRecDepth 100000 in
set_option maxHeartbeats 6400000 in
theorem markBooksO_any (vb : Value) (bks : List Bk) (lo : Nat) (k : Int) (w : World) (hk : 0 ≤ k) (hk2 : marksE k bks ≤ 1073741824) (hn : ∀ b ∈ bks, b.rs.length ≤ 1048576) (own : OwnB lo w vb bks) (apa : ApartM bks) (hlo : lo ≤ w.heap.size) :
    Calls Tryz.prog 50 #[vb, .int .i64 k] w fun e w' => e = .returned (.int .i64 (marksE k bks)) ∧ OwnB lo w' vb (marksB k bks) ∧ w'.os = w.os ∧ w'.tape = w.tape ∧ w'.output = w.output ∧ w.heap.size ≤ w'.heap.size ∧ ∀ i, i < w.heap.size → vb.ownBlock ≠ some i → (∀ b ∈ bks, b.m.ownBlock ≠ some i) → w'.heap[i]? = w.heap[i]? := by
  rcases Nat.eq_zero_or_pos bks.length with h0 | hpos
  · obtain rfl : bks = [] := List.length_eq_zero_iff.1 h0
    obtain ⟨o, cap, rfl⟩ := own_slice own.row
    have HO : Hid _ := own
    clear own
    go_enter Tryz.func50, Tryz.ntmps50
    go_wp2
    refine wp_loop_rounds 1 ?_
    rw [rounds_succ]
    go_wp2
    go_ret
    exact ⟨rfl, HO.out, rfl, rfl, rfl, Nat.le_refl _, fun _ _ _ _ => rfl⟩
  obtain ⟨n, hn1⟩ : ∃ n, bks.length = n + 1 := ⟨bks.length - 1, by omega⟩
  obtain ⟨g, cap, hvb⟩ : ∃ g cap, vb = .slice (some ⟨g, 0, none⟩) bks.length cap := by
    have h := own.row
    rw [hn1] at h ⊢
    exact owns_form h
  subst hvb
  have HN : Hid _ := hn
  have HG : Hid (∀ j : Nat, k ≤ marksE k (bks.take j) ∧ marksE k (bks.take j) ≤ 1073741824) := fun j => ⟨marksE_ge _ _, Int.le_trans (marksE_le bks k j) hk2⟩
  have hgl : lo ≤ g := (own.row.lt g rfl).1
  have hlen : bks.length ≤ 268435456 := by have := marksE_tot bks k; omega
  have HAP : Hid _ := apa
  clear hn hk2 apa hn1 hpos
  go_enter Tryz.func50, Tryz.ntmps50
  go_wp2
  go_loopw [1, 5] (fun q i wr => ∃ j : Nat, j ≤ bks.length ∧ i = .int .i64 j ∧ q = .int .i64 (marksE k (bks.take j)) ∧ OwnB lo wr (.slice (some ⟨g, 0, none⟩) bks.length cap) (marksB k (bks.take j) ++ bks.drop j) ∧ Only (BkW g bks) w wr) (fun _ i _ => bks.length - (intOf i).toNat)
  case atStart => exact ⟨0, Nat.zero_le _, rfl, rfl, by simpa [marksB] using own, Only.refl _ _⟩
  case round =>
    obtain ⟨j, hj, rfl, rfl, ow, rg⟩ := hrel
    clear own
    by_cases hlt : j < bks.length
    · have hks := HG.out j
      have hks1 := HG.out (j + 1)
      rw [marksE_take bks k j hlt] at hks1
      have HT : Hid _ := And.intro (marksE_take bks k j hlt) (marksB_take bks k j hlt)
      have hxl : (marksB k (bks.take j) ++ bks.drop j).length = bks.length := by rw [List.length_append, marksB_length, List.length_take, List.length_drop]; omega
      have hms : (marksB k (bks.take j) ++ bks.drop j).map Bk.m = bks.map Bk.m := by rw [List.map_append, marksB_ms, ← List.map_append, List.take_append_drop]
      have hap := apart_ms hms HAP.out
      have hml : (marksB k (bks.take j)).length = j := by rw [marksB_length, List.length_take]; omega
      have hxj : (marksB k (bks.take j) ++ bks.drop j)[j]? = some bks[j] := by
        rw [List.getElem?_append_right (by omega), hml, Nat.sub_self, List.getElem?_drop, Nat.add_zero, List.getElem?_eq_getElem hlt]
      have hst : ∀ y : Bk, (marksB k (bks.take j) ++ bks.drop j).set j y = (marksB k (bks.take j) ++ [y]) ++ bks.drop (j + 1) := fun y => by
        rw [List.set_append_right _ _ (by omega), hml, Nat.sub_self, List.drop_eq_getElem_cons hlt, List.set_cons_zero, List.append_assoc]
        rfl
      have hrl := HN.out bks[j] (List.getElem_mem hlt)
      have hmb : ∀ g', bks[j].m.ownBlock = some g' → BkW g bks g' := fun g' h => .inr ⟨bks[j], List.getElem_mem hlt, h⟩
      generalize marksE k (bks.take j) = kk at *
      generalize marksB k (bks.take j) ++ bks.drop j = xs at *
      have HST : Hid _ := hst
      have HXL : Hid (xs.length = bks.length) := hxl
      have hjx : j < xs.length := by omega
      have HMB : Hid _ := hmb
      obtain ⟨x, hx⟩ : ∃ x, bks[j] = x := ⟨_, rfl⟩
      have HX : Hid (xs[j] = x) := by rw [Hid, ← hx]; rw [List.getElem?_eq_getElem hjx] at hxj; exact Option.some.inj hxj
      rw [hx] at hks1 hrl HMB
      have HT2 : Hid (marksE k (bks.take (j + 1)) = markN kk x ∧ marksB k (bks.take (j + 1)) = marksB k (bks.take j) ++ [markB kk x]) := by rw [← hx]; exact HT.out
      have HAA : Hid _ := hap
      clear hst hxl hms hap hml hxj hx hmb HT
      unfold markN at hks1
      have i0 : (0 : Int) ≤ (j : Int) := by omega
      have i1 : (j : Int) < (bks.length : Int) := by omega
      go_wp2_with fail
      refine (markText_any kk _ (by omega)).mono ?_
      rintro e w1 ⟨rfl, b1⟩
      have ow1 := ow.below b1
      have rg1 := rg.below b1
      obtain ⟨⟨t0, t1, t2, t3, t4⟩, f0, f1, f2, f3, f4⟩ := own_five ow1.row j hjx
      rw [HX.out] at t0 t1 t2 t3 t4
      -- the name and the size
      have h1 := own_put bookC_len ow1.row j 0 x ⟨markS kk, x.sz, x.m, x.rs, x.fx, x.ep⟩ (.string (markS kk)) (by rw [List.getElem?_eq_getElem hjx, HX.out]) (by omega) rfl
      have h2 := own_put bookC_len h1 j 1 ⟨markS kk, x.sz, x.m, x.rs, x.fx, x.ep⟩ ⟨markS kk, kk + 1, x.m, x.rs, x.fx, x.ep⟩ (.int .i64 (kk + 1)) (by simp [hjx]) (by omega) rfl
      have u2 : Upto g w1 ((w1.setCell ⟨g, j * 5 + 0, none⟩ (.string (markS kk))).setCell ⟨g, j * 5 + 1, none⟩ (.int .i64 (kk + 1))) := ((Upto.refl _ _).setCell ⟨g, j * 5 + 0, none⟩ (.inl rfl) _).setCell ⟨g, j * 5 + 1, none⟩ (.inl rfl) _
      have mp2 : ∀ b ∈ xs, ((w1.setCell ⟨g, j * 5 + 0, none⟩ (.string (markS kk))).setCell ⟨g, j * 5 + 1, none⟩ (.int .i64 (kk + 1))).ownsRow lo 185 3 b.m b.rs.length (b.rs.flatMap runC) := fun b hb => maps_book ow1.row u2 (ow1.maps b hb)
      have rg2 : Only (BkW g bks) w ((w1.setCell ⟨g, j * 5 + 0, none⟩ (.string (markS kk))).setCell ⟨g, j * 5 + 1, none⟩ (.int .i64 (kk + 1))) := rg1.trans ⟨u2.os, u2.tape, u2.output, u2.size, fun i hi' hc => u2.block i hi' (fun h => hc (.inl h))⟩
      have z2 := u2.size
      have z1 := rg1.size
      rw [List.set_set] at h2
      simp only [Nat.add_zero] at h2 mp2 rg2 z2 u2
      have HB : Hid _ := And.intro h2 (And.intro mp2 rg2)
      have lg1 : g < w1.heap.size := (ow1.row.lt g rfl).2
      have hlo2 : lo ≤ ((w1.setCell ⟨g, j * 5, none⟩ (.string (markS kk))).setCell ⟨g, j * 5 + 1, none⟩ (.int .i64 (kk + 1))).heap.size := by omega
      have t2' : ((w1.setCell ⟨g, j * 5, none⟩ (.string (markS kk))).setCell ⟨g, j * 5 + 1, none⟩ (.int .i64 (kk + 1))).cell? ⟨g, j * 5 + 2, none⟩ = some x.m := (own_five HB.out.1 j (by simpa using hjx)).1.2.2.1.trans (by simp)
      obtain ⟨om, cm, hxm⟩ : ∃ om cm, x.m = .slice om x.rs.length cm := own_slice (HB.out.2.1 x (by rw [← HX.out]; exact List.getElem_mem hjx))
      have w1a : IntKind.i64.wrap (kk + 1) = kk + 1 := by rw [IntKind.wrap_i64]; omega
      have w1b : IntKind.i64.wrap (kk + 1 + 1) = kk + 1 + 1 := by rw [IntKind.wrap_i64]; omega
      rw [hxm] at t2 t2'
      clear h1 h2 mp2 rg2 u2 ow ow1 b1 rg rg1
      go_wp2_with fail
      clear t0 t1 t2 t3 t4 f0 f1 f2 f3 f4 t2'
      generalize (w1.setCell ⟨g, j * 5, none⟩ (.string (markS kk))).setCell ⟨g, j * 5 + 1, none⟩ (.int .i64 (kk + 1)) = w2 at *
      have omx := HB.out.2.1 x (by rw [← HX.out]; exact List.getElem_mem hjx)
      refine (markedRRow_any _ lo (kk + 1 + 1) x.rs _ (by omega) (by omega) hrl hlo2 (by rw [hxm] at omx; exact omx)).mono ?_
      rintro e w3 ⟨rfl, o3, b3, z3, hh⟩
      rw [← hxm] at o3 hh
      have row3 := row_maps HB.out.1 omx hh
      have mp3 : ∀ (i : Nat) (hi' : i < xs.length), i ≠ j → w3.ownsRow lo 185 3 xs[i].m xs[i].rs.length (xs[i].rs.flatMap runC) := fun i hi' hne => own_rng_not (HB.out.2.1 xs[i] (List.getElem_mem hi')) (fun q hq hqv => hh q hq (fun hx => by
        rw [← HX.out] at hx
        exact apart_at HAA.out i j hi' hjx hne q hqv hx))
      have rg3 : Only (BkW g bks) w w3 := HB.out.2.2.trans ⟨b3.os, b3.tape, b3.output, z3, fun i hi' hc => hh i hi' (fun h => hc (HMB.out i h))⟩
      have hj3 : j < (xs.set j ⟨markS kk, kk + 1, x.m, x.rs, x.fx, x.ep⟩).length := by simpa using hjx
      obtain ⟨⟨t0, t1, t2, t3, t4⟩, f0, f1, f2, f3, f4⟩ := own_five row3 j hj3
      simp only [List.getElem_set_self] at t0 t1 t2 t3 t4
      -- the map is another one now
      have row4 : w3.ownsRow lo 133 5 (.slice (some ⟨g, 0, none⟩) bks.length cap) (xs.set j ⟨markS kk, kk + 1, x.m, marksR (kk + 1 + 1) x.rs.length, x.fx, x.ep⟩).length ((xs.set j ⟨markS kk, kk + 1, x.m, marksR (kk + 1 + 1) x.rs.length, x.fx, x.ep⟩).flatMap bookC) := by
        have e1 : (xs.set j (⟨markS kk, kk + 1, x.m, x.rs, x.fx, x.ep⟩ : Bk)).flatMap bookC = (xs.set j ⟨markS kk, kk + 1, x.m, marksR (kk + 1 + 1) x.rs.length, x.fx, x.ep⟩).flatMap bookC := by
          rw [List.flatMap_def, List.flatMap_def, List.map_set, List.map_set]; rfl
        rw [← e1, List.length_set]
        rw [List.length_set] at row3
        exact row3
      have h5 := own_put bookC_len row4 j 3 ⟨markS kk, kk + 1, x.m, marksR (kk + 1 + 1) x.rs.length, x.fx, x.ep⟩ ⟨markS kk, kk + 1, x.m, marksR (kk + 1 + 1) x.rs.length, (kk + 1 + 1) % 3 == 0, x.ep⟩ (.bool ((kk + 1 + 1) % 3 == 0)) (by simp [hjx]) (by omega) rfl
      have h6 := own_put bookC_len h5 j 4 ⟨markS kk, kk + 1, x.m, marksR (kk + 1 + 1) x.rs.length, (kk + 1 + 1) % 3 == 0, x.ep⟩ (markB kk x) (.int .i64 (kk + 1 + 1 + 3 * x.rs.length + 1)) (by simp [hjx]) (by omega) rfl
      rw [List.set_set, List.set_set] at h6
      have u6 : Upto g w3 ((w3.setCell ⟨g, j * 5 + 3, none⟩ (.bool ((kk + 1 + 1) % 3 == 0))).setCell ⟨g, j * 5 + 4, none⟩ (.int .i64 (kk + 1 + 1 + 3 * x.rs.length + 1))) := ((Upto.refl _ _).setCell ⟨g, j * 5 + 3, none⟩ (.inl rfl) _).setCell ⟨g, j * 5 + 4, none⟩ (.inl rfl) _
      have mp6 : ∀ b ∈ xs.set j (markB kk x), ((w3.setCell ⟨g, j * 5 + 3, none⟩ (.bool ((kk + 1 + 1) % 3 == 0))).setCell ⟨g, j * 5 + 4, none⟩ (.int .i64 (kk + 1 + 1 + 3 * x.rs.length + 1))).ownsRow lo 185 3 b.m b.rs.length (b.rs.flatMap runC) := fun b hb => by
        obtain ⟨i, hi', rfl⟩ := List.getElem_of_mem hb
        have hi2 : i < xs.length := by simpa using hi'
        by_cases hij : i = j
        · subst hij
          rw [List.getElem_set_self]
          exact maps_book row4 u6 o3
        · rw [List.getElem_set_ne (fun h => hij h.symm)]
          exact maps_book row4 u6 (mp3 i hi2 hij)
      have rg6 : Only (BkW g bks) w ((w3.setCell ⟨g, j * 5 + 3, none⟩ (.bool ((kk + 1 + 1) % 3 == 0))).setCell ⟨g, j * 5 + 4, none⟩ (.int .i64 (kk + 1 + 1 + 3 * x.rs.length + 1))) := rg3.trans ⟨u6.os, u6.tape, u6.output, u6.size, fun i hi' hc => u6.block i hi' (fun h => hc (.inl h))⟩
      rw [HST.out (markB kk x)] at h6 mp6
      rw [← HT2.out.2] at h6 mp6
      have HF : Hid _ := And.intro h6 (And.intro mp6 rg6)
      have w3a : IntKind.i64.wrap (kk + 1 + 1 + 3 * (x.rs.length : Int) + 1) = kk + 1 + 1 + 3 * (x.rs.length : Int) + 1 := by rw [IntKind.wrap_i64]; omega
      have w3b : IntKind.i64.wrap (kk + 1 + 1 + 3 * (x.rs.length : Int) + 1 + 1) = kk + 1 + 1 + 3 * (x.rs.length : Int) + 1 + 1 := by rw [IntKind.wrap_i64]; omega
      have HT3 : Hid (marksE k (bks.take (j + 1)) = kk + 1 + 1 + 3 * (x.rs.length : Int) + 1 + 1) := HT2.out.1
      clear h5 h6 mp6 rg6 u6 row4 row3 mp3 rg3 o3 omx b3 hh HB HT2 HST HX HMB HAA hxm z3 z2 z1 t0 t1 t2
      go_wp2_with fail
      go_roundw
      case rel => exact ⟨j + 1, by omega, by go_num, by rw [HT3.out], ⟨HF.out.1, HF.out.2.1⟩, HF.out.2.2⟩
      case measure => simp [intOf]; omega
    · have hjl : j = bks.length := by omega
      have HO : Hid (OwnB lo wr (.slice (some ⟨g, 0, none⟩) bks.length cap) (marksB k bks)) := by
        rw [hjl, List.drop_of_length_le (Nat.le_refl _), List.append_nil, List.take_length] at ow
        exact ow
      have htk : bks.take j = bks := by rw [hjl, List.take_length]
      rw [htk]
      clear ow htk
      have i1 : ¬ (j : Int) < (bks.length : Int) := by omega
      go_wp2_with fail
      go_ret
      exact ⟨rfl, HO.out, rg.os, rg.tape, rg.output, rg.size, fun i hi' h1 h2 => rg.block i hi' (fun hx => by
        rcases hx with rfl | ⟨b, hb, hg'⟩
        · exact h1 rfl
        · exact h2 b hb hg')⟩

set_option maxRecDepth 100000 in
set_option maxHeartbeats 6400000 in
theorem heldBooks_any (vb : Value) (bks : List Bk) (k : Int) (w : World) (hk : 0 ≤ k) (hk2 : marksE k bks ≤ 1073741824) (hn : ∀ b ∈ bks, b.rs.length ≤ 1048576) (r : ReadsB w.heap.size w vb (marksB k bks)) :
    Calls Tryz.prog 54 #[vb, .int .i64 k] w fun e w' => e = .returned (.int .i64 (marksE k bks)) ∧ Below w.heap.size w w' := by
  have RM : Hid _ := r.maps
  obtain ⟨o, cap, rfl, hm, hc, -⟩ := r.row
  have HC : Hid _ := five_cells hc
  have HN : Hid _ := hn
  have HG : Hid (∀ j : Nat, k ≤ marksE k (bks.take j) ∧ marksE k (bks.take j) ≤ 1073741824) := fun j => ⟨marksE_ge _ _, Int.le_trans (marksE_le bks k j) hk2⟩
  have hlen : bks.length ≤ 268435456 := by have := marksE_tot bks k; omega
  rw [marksB_length]
  clear hc r hn hk2 hm
  go_enter Tryz.func54, Tryz.ntmps54
  go_wp2
  go_loopw [1, 5] (fun q i wr => ∃ j : Nat, j ≤ bks.length ∧ i = .int .i64 j ∧ q = .int .i64 (marksE k (bks.take j)) ∧ Below w.heap.size w wr) (fun _ i _ => bks.length - (intOf i).toNat)
  case atStart => exact ⟨0, Nat.zero_le _, rfl, rfl, Below.refl _ _⟩
  case round =>
    obtain ⟨j, hj, rfl, rfl, hb⟩ := hrel
    by_cases hlt : j < bks.length
    · have hjm : j < (marksB k bks).length := by rw [marksB_length]; exact hlt
      obtain ⟨g, off, rfl, hg, a0, a1, a2, a3, a4⟩ := HC.out j hjm
      have rm := (RM.out (marksB k bks)[j] (List.getElem_mem hjm)).below hb
      have hks := HG.out j
      have hks1 := HG.out (j + 1)
      rw [marksE_take bks k j hlt] at hks1
      have HT : Hid _ := marksE_take bks k j hlt
      have hat : (marksB k bks)[j] = markB (marksE k (bks.take j)) bks[j] := by
        have e : marksB k bks = marksB k (bks.take (j + 1)) ++ marksB (marksE k (bks.take (j + 1))) (bks.drop (j + 1)) := by rw [← marksB_append, List.take_append_drop]
        have hml : (marksB k (bks.take j)).length = j := by rw [marksB_length, List.length_take]; omega
        have e2 : (marksB k bks)[j]? = some (markB (marksE k (bks.take j)) bks[j]) := by
          rw [e, marksB_take bks k j hlt, List.append_assoc, List.getElem?_append_right (by omega), hml, Nat.sub_self]
          rfl
        rw [List.getElem?_eq_getElem hjm] at e2
        exact Option.some.inj e2
      rw [hat] at a0 a1 a2 a3 a4 rm
      have hrl := HN.out bks[j] (List.getElem_mem hlt)
      generalize marksE k (bks.take j) = kk at *
      generalize bks[j] = x at *
      obtain ⟨nm, sz, m, rs, fx, ep⟩ := x
      simp only [markB] at a0 a1 a2 a3 a4 rm
      simp only at hrl
      simp only [markN] at hks1 HT
      obtain ⟨om, cm, hm'⟩ := rm.form
      rw [marksR_length] at hm'
      subst hm'
      have lg : g < wr.heap.size := Nat.lt_of_lt_of_le hg hb.size
      replace a0 := (hb.cell (p := ⟨g, off + j * 5, none⟩) hg).trans a0
      replace a1 := (hb.cell (p := ⟨g, off + j * 5 + 1, none⟩) hg).trans a1
      replace a2 := (hb.cell (p := ⟨g, off + j * 5 + 2, none⟩) hg).trans a2
      replace a3 := (hb.cell (p := ⟨g, off + j * 5 + 3, none⟩) hg).trans a3
      replace a4 := (hb.cell (p := ⟨g, off + j * 5 + 4, none⟩) hg).trans a4
      have hne := BelowOf.any wr
      have c0 := BelowOf.cell a0 lg
      have i0 : (0 : Int) ≤ (j : Int) := by omega
      have i1 : (j : Int) < (bks.length : Int) := by omega
      have hself : ((markS kk).toList == (markS kk).toList) = true := by simp
      have HMT : ∀ z : BelowOf wr, Calls Tryz.prog 48 #[.int .i64 kk] z.w' fun e w' => e = .returned (.string (markS kk)) ∧ Below z.w'.heap.size z.w' w' := fun z => markText_any kk z.w' (by omega)
      clear hat hjm
      go_wp2_with fail
      refine wp_region_of (by kernel_rfl) (by kernel_rfl) ?_
      repeat (go_big_quiet_step ((first | (go_at_call 48; exact calls_of (HMT _)) | rfl)))
      refine wpQuiet_nil ?_
      intro w5 hw5
      obtain ⟨⟨wx, cx⟩, hwx⟩ := hw5
      have b5 : Below wr.heap.size wr w5 := by rw [hwx]; exact cx
      clear hwx cx wx c0 HMT hne
      replace a1 := (b5.cell (p := ⟨g, off + j * 5 + 1, none⟩) lg).trans a1
      replace a2 := (b5.cell (p := ⟨g, off + j * 5 + 2, none⟩) lg).trans a2
      replace a3 := (b5.cell (p := ⟨g, off + j * 5 + 3, none⟩) lg).trans a3
      replace a4 := (b5.cell (p := ⟨g, off + j * 5 + 4, none⟩) lg).trans a4
      replace rm := ((rm.mono hb.size).below b5).mono b5.size
      replace hb := bw_call hb b5
      replace lg := Nat.lt_of_lt_of_le lg b5.size
      have w1a : IntKind.i64.wrap (kk + 1) = kk + 1 := by rw [IntKind.wrap_i64]; omega
      have w1b : IntKind.i64.wrap (kk + 1 + 1) = kk + 1 + 1 := by rw [IntKind.wrap_i64]; omega
      clear b5 a0
      go_wp2_with fail
      clear a1 a2
      refine (heldR_any _ rs.length (kk + 1 + 1) _ (by omega) (by omega) hrl rm).mono ?_
      rintro e w6 ⟨rfl, b6⟩
      replace a3 := (b6.cell (p := ⟨g, off + j * 5 + 3, none⟩) lg).trans a3
      replace a4 := (b6.cell (p := ⟨g, off + j * 5 + 4, none⟩) lg).trans a4
      replace hb := bw_call hb b6
      have hp : 0 ≤ kk + 1 + 1 + 3 * (rs.length : Int) := by omega
      have w3a : IntKind.i64.wrap (kk + 1 + 1 + 3 * (rs.length : Int) + 1) = kk + 1 + 1 + 3 * (rs.length : Int) + 1 := by rw [IntKind.wrap_i64]; omega
      have w3b : IntKind.i64.wrap (kk + 1 + 1 + 3 * (rs.length : Int) + 1 + 1) = kk + 1 + 1 + 3 * (rs.length : Int) + 1 + 1 := by rw [IntKind.wrap_i64]; omega
      clear b6 rm
      go_wp2_with fail
      go_roundw
      case rel => exact ⟨j + 1, by omega, by go_num, by rw [HT.out], hb⟩
      case measure => simp [intOf]; omega
    · have hjl : j = bks.length := by omega
      have htk : bks.take j = bks := by rw [hjl, List.take_length]
      rw [htk]
      have i1 : ¬ (j : Int) < (bks.length : Int) := by omega
      clear htk
      go_wp2_with fail
      go_ret
      exact ⟨rfl, hb⟩
end Go.Proofs.YtibhepekmihagaaGreatDoor

