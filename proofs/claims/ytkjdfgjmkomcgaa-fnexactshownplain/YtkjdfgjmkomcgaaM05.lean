/-
  Contracts and plain laws, one chapter behind the other.
-/
import Derived.Test.YtkjdfgjmkomcgaaM01
import Derived.Test.YtkjdfgjmkomcgaaM02
import Derived.Test.YtkjdfgjmkomcgaaM03
import Derived.Test.YtkjdfgjmkomcgaaM04
namespace Go.Proofs.Ytkjdfgjmkomcgaa
open Go.RowKit

set_option linter.unusedVariables false


/-! ### Plain -/
def markB (k : Int) (b : Bk) : Bk := ⟨markS k, k + 1, b.m, marksR (k + 1 + 1) b.rs.length, (k + 1 + 1) % 3 == 0, k + 1 + 1 + 3 * b.rs.length + 1⟩

def markN (k : Int) (b : Bk) : Int := k + 1 + 1 + 3 * b.rs.length + 1 + 1

def marksB (k : Int) : List Bk → List Bk
  | [] => []
  | b :: t => markB k b :: marksB (markN k b) t

def marksE (k : Int) : List Bk → Int
  | [] => k
  | b :: t => marksE (markN k b) t

theorem marksE_ge (bs : List Bk) : ∀ k : Int, k ≤ marksE k bs := by
  induction bs with
  | nil => intro k; exact Int.le_refl _
  | cons b t ih => intro k; have := ih (markN k b); rw [marksE]; unfold markN at *; omega

theorem marksE_append (xs ys : List Bk) : ∀ k : Int, marksE k (xs ++ ys) = marksE (marksE k xs) ys := by
  induction xs with
  | nil => intro k; rfl
  | cons b t ih => intro k; exact ih _

theorem marksB_append (xs ys : List Bk) : ∀ k : Int, marksB k (xs ++ ys) = marksB k xs ++ marksB (marksE k xs) ys := by
  induction xs with
  | nil => intro k; rfl
  | cons b t ih => intro k; simp only [List.cons_append, marksB, marksE, ih]

theorem marksB_length (bs : List Bk) : ∀ k : Int, (marksB k bs).length = bs.length := by
  induction bs with
  | nil => intro k; rfl
  | cons b t ih => intro k; simp [marksB, ih]

theorem marksE_take (bs : List Bk) (k : Int) (j : Nat) (hj : j < bs.length) : marksE k (bs.take (j + 1)) = markN (marksE k (bs.take j)) bs[j] := by
  rw [List.take_succ_eq_append_getElem hj, marksE_append]; rfl

theorem marksB_take (bs : List Bk) (k : Int) (j : Nat) (hj : j < bs.length) : marksB k (bs.take (j + 1)) = marksB k (bs.take j) ++ [markB (marksE k (bs.take j)) bs[j]] := by
  rw [List.take_succ_eq_append_getElem hj, marksB_append]; rfl

theorem marksE_le (bs : List Bk) (k : Int) (j : Nat) : marksE k (bs.take j) ≤ marksE k bs := by
  have h := marksE_ge (bs.drop j) (marksE k (bs.take j))
  rwa [← marksE_append, List.take_append_drop] at h

theorem marksB_ms (bs : List Bk) : ∀ k : Int, (marksB k bs).map Bk.m = bs.map Bk.m := by
  induction bs with
  | nil => intro k; rfl
  | cons b t ih => intro k; simp [marksB, markB, ih]

def totB (bs : List Bk) : Nat := bs.foldr (fun b n => b.rs.length + n) 0

theorem marksE_tot (bs : List Bk) : ∀ k : Int, marksE k bs = k + 4 * bs.length + 3 * totB bs := by
  induction bs with
  | nil => intro k; simp [marksE, totB]
  | cons b t ih =>
    intro k
    have h : totB (b :: t) = b.rs.length + totB t := rfl
    rw [marksE, ih, h, markN, List.length_cons]
    omega

theorem apart_ms {bs ms : List Bk} (h : ms.map Bk.m = bs.map Bk.m) (a : ApartM bs) : ApartM ms := by
  have key : ∀ l : List Bk, ApartM l ↔ (l.map Bk.m).Pairwise (fun x y => ∀ g, x.ownBlock = some g → y.ownBlock ≠ some g) := fun l => by rw [List.pairwise_map]; exact Iff.rfl
  exact (key ms).2 (by rw [h]; exact (key bs).1 a)

/-- Another book's map lies in another block. -/
theorem apart_at {bs : List Bk} (h : ApartM bs) (i j : Nat) (hi : i < bs.length) (hj : j < bs.length) (hne : i ≠ j) (g : Nat) (hg : bs[i].m.ownBlock = some g) : bs[j].m.ownBlock ≠ some g := by
  rcases Nat.lt_or_gt_of_ne hne with q | q
  · exact (List.pairwise_iff_getElem.1 h i j hi hj q) g hg
  · exact fun hx => (List.pairwise_iff_getElem.1 h j i hj hi q) g hx hg

/-- Cells of a row of books are written: the maps stay. -/
theorem maps_book {w w' : World} {base g n cap : Nat} {xs : List Bk} (h : w.ownsRow base 39 5 (.slice (some ⟨g, 0, none⟩) n cap) xs.length (xs.flatMap bookC)) (u : Upto g w w') {v : Value} {k : Nat} {ys : List Value} (hm : w.ownsRow base 106 3 v k ys) : w'.ownsRow base 106 3 v k ys := by
  obtain ⟨cur, hcur⟩ : ∃ cur, w.heap[g]? = some (.cells cur 39 (0, 0)) := by
    rcases h.2 with ⟨e, _⟩ | ⟨g', cap', cur, e, _, hh, _⟩
    · simp at e
    · simp only [Value.slice.injEq, Option.some.injEq, Addr.mk.injEq, and_true] at e
      obtain ⟨rfl, _⟩ := e
      exact ⟨cur, hh⟩
  exact own_rng_not hm (fun q hq hqv => u.block q hq (fun hx => own_not_box hm hcur (by decide) (by rw [← hx]; exact hqv)))

theorem row_maps {w w' : World} {base g n cap : Nat} {xs : List Bk} (h : w.ownsRow base 39 5 (.slice (some ⟨g, 0, none⟩) n cap) xs.length (xs.flatMap bookC)) {v : Value} {k : Nat} {ys : List Value} (hm : w.ownsRow base 106 3 v k ys) (hh : ∀ i, i < w.heap.size → v.ownBlock ≠ some i → w'.heap[i]? = w.heap[i]?) : w'.ownsRow base 39 5 (.slice (some ⟨g, 0, none⟩) n cap) xs.length (xs.flatMap bookC) := by
  obtain ⟨cur, hcur⟩ : ∃ cur, w.heap[g]? = some (.cells cur 39 (0, 0)) := by
    rcases h.2 with ⟨e, _⟩ | ⟨g', cap', cur, e, _, hh, _⟩
    · simp at e
    · simp only [Value.slice.injEq, Option.some.injEq, Addr.mk.injEq, and_true] at e
      obtain ⟨rfl, _⟩ := e
      exact ⟨cur, hh⟩
  refine own_rng_not h (fun q hq hqv => hh q hq (fun hx => ?_))
  have hqg : q = g := by simpa [Value.ownBlock, eq_comm] using hqv
  subst hqg
  exact own_not_box hm hcur (by decide) hx

/-- The blocks of a row of books: its own, and its maps'. -/
def BkW (g : Nat) (bks : List Bk) (i : Nat) : Prop := i = g ∨ ∃ b ∈ bks, b.m.ownBlock = some i

set_option maxRecDepth 100000 in
set_option maxHeartbeats 6400000 in
theorem markBooksO_any (vb : Value) (bks : List Bk) (lo : Nat) (k : Int) (w : World) (hk : 0 ≤ k) (hk2 : marksE k bks ≤ 1073741824) (hn : ∀ b ∈ bks, b.rs.length ≤ 1048576) (own : OwnB lo w vb bks) (apa : ApartM bks) (hlo : lo ≤ w.heap.size) :
    Calls Try.prog 53 #[vb, .int .i64 k] w fun e w' => e = .returned (.int .i64 (marksE k bks)) ∧ OwnB lo w' vb (marksB k bks) ∧ w'.os = w.os ∧ w'.tape = w.tape ∧ w'.output = w.output ∧ w.heap.size ≤ w'.heap.size ∧ ∀ i, i < w.heap.size → vb.ownBlock ≠ some i → (∀ b ∈ bks, b.m.ownBlock ≠ some i) → w'.heap[i]? = w.heap[i]? := by
  rcases Nat.eq_zero_or_pos bks.length with h0 | hpos
  · obtain rfl : bks = [] := List.length_eq_zero_iff.1 h0
    obtain ⟨o, cap, rfl⟩ := own_slice own.row
    have HO : Hid _ := own
    clear own
    go_enter Try.func53, Try.ntmps53
    go_wp2
    refine wp_loop_rounds 1 ?_
    rw [rounds_succ]
    go_wp2
    go_ret
    exact ⟨rfl, HO.out, rfl, rfl, rfl, Nat.le_refl _, fun _ _ _ _ => rfl⟩
  obtain ⟨n, hn1⟩ : ∃ n, bks.length = n + 1 := ⟨bks.length - 1, by omega⟩
  obtain ⟨g, cap, hvb⟩ : ∃ g cap, vb = .slice (some ⟨g, 0, none⟩) bks.length cap := by
    have h := own.row
    rw [hn1] at h ⊢
    exact owns_form h
  subst hvb
  have HN : Hid _ := hn
  have HG : Hid (∀ j : Nat, k ≤ marksE k (bks.take j) ∧ marksE k (bks.take j) ≤ 1073741824) := fun j => ⟨marksE_ge _ _, Int.le_trans (marksE_le bks k j) hk2⟩
  have hgl : lo ≤ g := (own.row.lt g rfl).1
  have hlen : bks.length ≤ 268435456 := by have := marksE_tot bks k; omega
  have HAP : Hid _ := apa
  clear hn hk2 apa hn1 hpos
  go_enter Try.func53, Try.ntmps53
  go_wp2
  go_loopw [1, 5] (fun q i wr => ∃ j : Nat, j ≤ bks.length ∧ i = .int .i64 j ∧ q = .int .i64 (marksE k (bks.take j)) ∧ OwnB lo wr (.slice (some ⟨g, 0, none⟩) bks.length cap) (marksB k (bks.take j) ++ bks.drop j) ∧ Only (BkW g bks) w wr) (fun _ i _ => bks.length - (intOf i).toNat)
  case atStart => exact ⟨0, Nat.zero_le _, rfl, rfl, by simpa [marksB] using own, Only.refl _ _⟩
  case round =>
    obtain ⟨j, hj, rfl, rfl, ow, rg⟩ := hrel
    clear own
    by_cases hlt : j < bks.length
    · have hks := HG.out j
      have hks1 := HG.out (j + 1)
      rw [marksE_take bks k j hlt] at hks1
      have HT : Hid _ := And.intro (marksE_take bks k j hlt) (marksB_take bks k j hlt)
      have hxl : (marksB k (bks.take j) ++ bks.drop j).length = bks.length := by rw [List.length_append, marksB_length, List.length_take, List.length_drop]; omega
      have hms : (marksB k (bks.take j) ++ bks.drop j).map Bk.m = bks.map Bk.m := by rw [List.map_append, marksB_ms, ← List.map_append, List.take_append_drop]
      have hap := apart_ms hms HAP.out
      have hml : (marksB k (bks.take j)).length = j := by rw [marksB_length, List.length_take]; omega
      have hxj : (marksB k (bks.take j) ++ bks.drop j)[j]? = some bks[j] := by
        rw [List.getElem?_append_right (by omega), hml, Nat.sub_self, List.getElem?_drop, Nat.add_zero, List.getElem?_eq_getElem hlt]
      have hst : ∀ y : Bk, (marksB k (bks.take j) ++ bks.drop j).set j y = (marksB k (bks.take j) ++ [y]) ++ bks.drop (j + 1) := fun y => by
        rw [List.set_append_right _ _ (by omega), hml, Nat.sub_self, List.drop_eq_getElem_cons hlt, List.set_cons_zero, List.append_assoc]
        rfl
      have hrl := HN.out bks[j] (List.getElem_mem hlt)
      have hmb : ∀ g', bks[j].m.ownBlock = some g' → BkW g bks g' := fun g' h => .inr ⟨bks[j], List.getElem_mem hlt, h⟩
      generalize marksE k (bks.take j) = kk at *
      generalize marksB k (bks.take j) ++ bks.drop j = xs at *
      have HST : Hid _ := hst
      have HXL : Hid (xs.length = bks.length) := hxl
      have hjx : j < xs.length := by omega
      have HMB : Hid _ := hmb
      obtain ⟨x, hx⟩ : ∃ x, bks[j] = x := ⟨_, rfl⟩
      have HX : Hid (xs[j] = x) := by rw [Hid, ← hx]; rw [List.getElem?_eq_getElem hjx] at hxj; exact Option.some.inj hxj
      rw [hx] at hks1 hrl HMB
      have HT2 : Hid (marksE k (bks.take (j + 1)) = markN kk x ∧ marksB k (bks.take (j + 1)) = marksB k (bks.take j) ++ [markB kk x]) := by rw [← hx]; exact HT.out
      have HAA : Hid _ := hap
      clear hst hxl hms hap hml hxj hx hmb HT
      unfold markN at hks1
      have i0 : (0 : Int) ≤ (j : Int) := by omega
      have i1 : (j : Int) < (bks.length : Int) := by omega
      go_wp2_with fail
      refine (markText_any kk _ (by omega)).mono ?_
      rintro e w1 ⟨rfl, b1⟩
      have ow1 := ow.below b1
      have rg1 := rg.below b1
      obtain ⟨⟨t0, t1, t2, t3, t4⟩, f0, f1, f2, f3, f4⟩ := own_five ow1.row j hjx
      rw [HX.out] at t0 t1 t2 t3 t4
      -- the name and the size
      have h1 := own_put bookC_len ow1.row j 0 x ⟨markS kk, x.sz, x.m, x.rs, x.fx, x.ep⟩ (.string (markS kk)) (by rw [List.getElem?_eq_getElem hjx, HX.out]) (by omega) rfl
      have h2 := own_put bookC_len h1 j 1 ⟨markS kk, x.sz, x.m, x.rs, x.fx, x.ep⟩ ⟨markS kk, kk + 1, x.m, x.rs, x.fx, x.ep⟩ (.int .i64 (kk + 1)) (by simp [hjx]) (by omega) rfl
      have u2 : Upto g w1 ((w1.setCell ⟨g, j * 5 + 0, none⟩ (.string (markS kk))).setCell ⟨g, j * 5 + 1, none⟩ (.int .i64 (kk + 1))) := ((Upto.refl _ _).setCell ⟨g, j * 5 + 0, none⟩ (.inl rfl) _).setCell ⟨g, j * 5 + 1, none⟩ (.inl rfl) _
      have mp2 : ∀ b ∈ xs, ((w1.setCell ⟨g, j * 5 + 0, none⟩ (.string (markS kk))).setCell ⟨g, j * 5 + 1, none⟩ (.int .i64 (kk + 1))).ownsRow lo 106 3 b.m b.rs.length (b.rs.flatMap runC) := fun b hb => maps_book ow1.row u2 (ow1.maps b hb)
      have rg2 : Only (BkW g bks) w ((w1.setCell ⟨g, j * 5 + 0, none⟩ (.string (markS kk))).setCell ⟨g, j * 5 + 1, none⟩ (.int .i64 (kk + 1))) := rg1.trans ⟨u2.os, u2.tape, u2.output, u2.size, fun i hi' hc => u2.block i hi' (fun h => hc (.inl h))⟩
      have z2 := u2.size
      have z1 := rg1.size
      rw [List.set_set] at h2
      simp only [Nat.add_zero] at h2 mp2 rg2 z2 u2
      have HB : Hid _ := And.intro h2 (And.intro mp2 rg2)
      have lg1 : g < w1.heap.size := (ow1.row.lt g rfl).2
      have hlo2 : lo ≤ ((w1.setCell ⟨g, j * 5, none⟩ (.string (markS kk))).setCell ⟨g, j * 5 + 1, none⟩ (.int .i64 (kk + 1))).heap.size := by omega
      have t2' : ((w1.setCell ⟨g, j * 5, none⟩ (.string (markS kk))).setCell ⟨g, j * 5 + 1, none⟩ (.int .i64 (kk + 1))).cell? ⟨g, j * 5 + 2, none⟩ = some x.m := (own_five HB.out.1 j (by simpa using hjx)).1.2.2.1.trans (by simp)
      obtain ⟨om, cm, hxm⟩ : ∃ om cm, x.m = .slice om x.rs.length cm := own_slice (HB.out.2.1 x (by rw [← HX.out]; exact List.getElem_mem hjx))
      have w1a : IntKind.i64.wrap (kk + 1) = kk + 1 := by rw [IntKind.wrap_i64]; omega
      have w1b : IntKind.i64.wrap (kk + 1 + 1) = kk + 1 + 1 := by rw [IntKind.wrap_i64]; omega
      rw [hxm] at t2 t2'
      clear h1 h2 mp2 rg2 u2 ow ow1 b1 rg rg1
      go_wp2_with fail
      clear t0 t1 t2 t3 t4 f0 f1 f2 f3 f4 t2'
      generalize (w1.setCell ⟨g, j * 5, none⟩ (.string (markS kk))).setCell ⟨g, j * 5 + 1, none⟩ (.int .i64 (kk + 1)) = w2 at *
      have omx := HB.out.2.1 x (by rw [← HX.out]; exact List.getElem_mem hjx)
      refine (markedRRow_any _ lo (kk + 1 + 1) x.rs _ (by omega) (by omega) hrl hlo2 (by rw [hxm] at omx; exact omx)).mono ?_
      rintro e w3 ⟨rfl, o3, b3, z3, hh⟩
      rw [← hxm] at o3 hh
      have row3 := row_maps HB.out.1 omx hh
      have mp3 : ∀ (i : Nat) (hi' : i < xs.length), i ≠ j → w3.ownsRow lo 106 3 xs[i].m xs[i].rs.length (xs[i].rs.flatMap runC) := fun i hi' hne => own_rng_not (HB.out.2.1 xs[i] (List.getElem_mem hi')) (fun q hq hqv => hh q hq (fun hx => by
        rw [← HX.out] at hx
        exact apart_at HAA.out i j hi' hjx hne q hqv hx))
      have rg3 : Only (BkW g bks) w w3 := HB.out.2.2.trans ⟨b3.os, b3.tape, b3.output, z3, fun i hi' hc => hh i hi' (fun h => hc (HMB.out i h))⟩
      have hj3 : j < (xs.set j ⟨markS kk, kk + 1, x.m, x.rs, x.fx, x.ep⟩).length := by simpa using hjx
      obtain ⟨⟨t0, t1, t2, t3, t4⟩, f0, f1, f2, f3, f4⟩ := own_five row3 j hj3
      simp only [List.getElem_set_self] at t0 t1 t2 t3 t4
      -- the map is another one now
      have row4 : w3.ownsRow lo 39 5 (.slice (some ⟨g, 0, none⟩) bks.length cap) (xs.set j ⟨markS kk, kk + 1, x.m, marksR (kk + 1 + 1) x.rs.length, x.fx, x.ep⟩).length ((xs.set j ⟨markS kk, kk + 1, x.m, marksR (kk + 1 + 1) x.rs.length, x.fx, x.ep⟩).flatMap bookC) := by
        have e1 : (xs.set j (⟨markS kk, kk + 1, x.m, x.rs, x.fx, x.ep⟩ : Bk)).flatMap bookC = (xs.set j ⟨markS kk, kk + 1, x.m, marksR (kk + 1 + 1) x.rs.length, x.fx, x.ep⟩).flatMap bookC := by
          rw [List.flatMap_def, List.flatMap_def, List.map_set, List.map_set]; rfl
        rw [← e1, List.length_set]
        rw [List.length_set] at row3
        exact row3
      have h5 := own_put bookC_len row4 j 3 ⟨markS kk, kk + 1, x.m, marksR (kk + 1 + 1) x.rs.length, x.fx, x.ep⟩ ⟨markS kk, kk + 1, x.m, marksR (kk + 1 + 1) x.rs.length, (kk + 1 + 1) % 3 == 0, x.ep⟩ (.bool ((kk + 1 + 1) % 3 == 0)) (by simp [hjx]) (by omega) rfl
      have h6 := own_put bookC_len h5 j 4 ⟨markS kk, kk + 1, x.m, marksR (kk + 1 + 1) x.rs.length, (kk + 1 + 1) % 3 == 0, x.ep⟩ (markB kk x) (.int .i64 (kk + 1 + 1 + 3 * x.rs.length + 1)) (by simp [hjx]) (by omega) rfl
      rw [List.set_set, List.set_set] at h6
      have u6 : Upto g w3 ((w3.setCell ⟨g, j * 5 + 3, none⟩ (.bool ((kk + 1 + 1) % 3 == 0))).setCell ⟨g, j * 5 + 4, none⟩ (.int .i64 (kk + 1 + 1 + 3 * x.rs.length + 1))) := ((Upto.refl _ _).setCell ⟨g, j * 5 + 3, none⟩ (.inl rfl) _).setCell ⟨g, j * 5 + 4, none⟩ (.inl rfl) _
      have mp6 : ∀ b ∈ xs.set j (markB kk x), ((w3.setCell ⟨g, j * 5 + 3, none⟩ (.bool ((kk + 1 + 1) % 3 == 0))).setCell ⟨g, j * 5 + 4, none⟩ (.int .i64 (kk + 1 + 1 + 3 * x.rs.length + 1))).ownsRow lo 106 3 b.m b.rs.length (b.rs.flatMap runC) := fun b hb => by
        obtain ⟨i, hi', rfl⟩ := List.getElem_of_mem hb
        have hi2 : i < xs.length := by simpa using hi'
        by_cases hij : i = j
        · subst hij
          rw [List.getElem_set_self]
          exact maps_book row4 u6 o3
        · rw [List.getElem_set_ne (fun h => hij h.symm)]
          exact maps_book row4 u6 (mp3 i hi2 hij)
      have rg6 : Only (BkW g bks) w ((w3.setCell ⟨g, j * 5 + 3, none⟩ (.bool ((kk + 1 + 1) % 3 == 0))).setCell ⟨g, j * 5 + 4, none⟩ (.int .i64 (kk + 1 + 1 + 3 * x.rs.length + 1))) := rg3.trans ⟨u6.os, u6.tape, u6.output, u6.size, fun i hi' hc => u6.block i hi' (fun h => hc (.inl h))⟩
      rw [HST.out (markB kk x)] at h6 mp6
      rw [← HT2.out.2] at h6 mp6
      have HF : Hid _ := And.intro h6 (And.intro mp6 rg6)
      have w3a : IntKind.i64.wrap (kk + 1 + 1 + 3 * (x.rs.length : Int) + 1) = kk + 1 + 1 + 3 * (x.rs.length : Int) + 1 := by rw [IntKind.wrap_i64]; omega
      have w3b : IntKind.i64.wrap (kk + 1 + 1 + 3 * (x.rs.length : Int) + 1 + 1) = kk + 1 + 1 + 3 * (x.rs.length : Int) + 1 + 1 := by rw [IntKind.wrap_i64]; omega
      have HT3 : Hid (marksE k (bks.take (j + 1)) = kk + 1 + 1 + 3 * (x.rs.length : Int) + 1 + 1) := HT2.out.1
      clear h5 h6 mp6 rg6 u6 row4 row3 mp3 rg3 o3 omx b3 hh HB HT2 HST HX HMB HAA hxm z3 z2 z1 t0 t1 t2
      go_wp2_with fail
      go_roundw
      case rel => exact ⟨j + 1, by omega, by go_num, by rw [HT3.out], ⟨HF.out.1, HF.out.2.1⟩, HF.out.2.2⟩
      case measure => simp [intOf]; omega
    · have hjl : j = bks.length := by omega
      have HO : Hid (OwnB lo wr (.slice (some ⟨g, 0, none⟩) bks.length cap) (marksB k bks)) := by
        rw [hjl, List.drop_of_length_le (Nat.le_refl _), List.append_nil, List.take_length] at ow
        exact ow
      have htk : bks.take j = bks := by rw [hjl, List.take_length]
      rw [htk]
      clear ow htk
      have i1 : ¬ (j : Int) < (bks.length : Int) := by omega
      go_wp2_with fail
      go_ret
      exact ⟨rfl, HO.out, rg.os, rg.tape, rg.output, rg.size, fun i hi' h1 h2 => rg.block i hi' (fun hx => by
        rcases hx with rfl | ⟨b, hb, hg'⟩
        · exact h1 rfl
        · exact h2 b hb hg')⟩
end Go.Proofs.Ytkjdfgjmkomcgaa

namespace Go.Proofs.Ytkjdfgjmkomcgaa
open Go.RowKit

set_option linter.unusedVariables false

set_option maxRecDepth 100000


theorem totB_take (bs : List Bk) (k : Nat) (hk : k < bs.length) : totB (bs.take (k + 1)) = totB (bs.take k) + bs[k].rs.length := by
  have e : ∀ (xs : List Bk) (y : Bk), totB (xs ++ [y]) = totB xs + y.rs.length := fun xs y => by
    induction xs with
    | nil => simp [totB]
    | cons a t ih => simp only [totB, List.cons_append, List.foldr_cons] at ih ⊢; omega
  rw [List.take_succ_eq_append_getElem hk, e]

set_option maxHeartbeats 800000 in
theorem szBook2_any (nm : ByteArray) (sz : Int) (m : Value) (rs : List (Int × Int × Int)) (fx : Bool) (ep : Int) (left : Int) (w : World) (hn : nm.size ≤ maxLen) (h0 : 0 ≤ left) (hl : left ≤ 1048576) (r : ReadsR 3 runC w.heap.size w m rs) :
    Calls Try.prog 90 #[.agg #[.string nm, .int .i64 sz, m, .bool fx, .int .i64 ep], .int .i64 left] w fun e w' => ∃ q : Int, e = .returned (.int .i64 q) ∧ (q = -1 ∨ (0 ≤ q ∧ q ≤ left ∧ nm.size ≤ 1048576 ∧ rs.length ≤ 1048576 ∧ q + (rs.length : Int) ≤ left)) ∧ Below w.heap.size w w' := by
  obtain ⟨o, cap, rfl, hm, -⟩ := r
  obtain ⟨W0, hW0, k0, d0, z0⟩ := box1 w #[.string nm, .int .i64 sz, .slice o rs.length cap, .bool fx, .int .i64 ep] 127
  have HW0 : Hid (W0 = _) := hW0
  have p0 := at_cell k0 0
  have p2 := at_cell k0 2
  rw [hW0] at p0 p2
  clear hW0 k0
  have HM : Hid _ := hm
  unfold maxLen at hn hm
  by_cases hb : left < (nm.size : Int)
  · have h1 : left - (nm.size : Int) < 0 := by omega
    go_enter Try.func90, Try.ntmps90
    go_wp2_with fail
    go_ret
    exact ⟨-1, rfl, .inl rfl, by rw [← HW0.out]; exact d0⟩
  · have hl1 : 0 ≤ left - (nm.size : Int) := by omega
    have hl2 : left - (nm.size : Int) ≤ 1048576 := by omega
    go_enter Try.func90, Try.ntmps90
    go_wp2_with fail
    refine (szRuns_any _ _ _ _ _ hl1 hl2 HM.out).mono ?_
    rintro e w' ⟨rfl, rfl⟩
    by_cases hb2 : left - (nm.size : Int) < (rs.length : Int)
    · rw [if_pos hb2]
      go_wp2_with fail
      go_ret
      exact ⟨-1, rfl, .inl rfl, by rw [← HW0.out]; exact d0⟩
    · rw [if_neg hb2]
      have hl3 : 0 ≤ left - (nm.size : Int) - (rs.length : Int) := by omega
      go_wp2_with fail
      go_ret
      exact ⟨_, rfl, .inr ⟨hl3, by omega, by omega, by omega, by omega⟩, by rw [← HW0.out]; exact d0⟩

set_option maxHeartbeats 1600000 in
theorem szBooks2_any (v : Value) (bs : List Bk) (left : Int) (w : World) (h0 : 0 ≤ left) (hl : left ≤ 1048576) (hn : ∀ b ∈ bs, b.nm.size ≤ maxLen) (r : ReadsB w.heap.size w v bs) :
    Calls Try.prog 46 #[v, .int .i64 left] w fun e w' => ∃ q : Int, e = .returned (.int .i64 q) ∧ (q = -1 ∨ (0 ≤ q ∧ q ≤ left ∧ bs.length ≤ 1048576 ∧ (∀ b ∈ bs, b.nm.size ≤ 1048576 ∧ b.rs.length ≤ 1048576) ∧ (totB bs : Int) ≤ left - q)) ∧ Below w.heap.size w w' := by
  have RM : Hid _ := r.maps
  have RN : Hid _ := hn
  obtain ⟨o, cap, rfl, hm, hc, -⟩ := r.row
  have HC : Hid _ := five_cells hc
  unfold maxLen at hm
  clear hc r hn
  by_cases hbig : left < (bs.length : Int)
  · have h1 : left - (bs.length : Int) < 0 := by omega
    go_enter Try.func46, Try.ntmps46
    go_wp2_with fail
    go_ret
    exact ⟨-1, rfl, .inl rfl, Below.refl _ _⟩
  · have h1 : 0 ≤ left - (bs.length : Int) := by omega
    go_enter Try.func46, Try.ntmps46
    go_wp2_with fail
    go_loopw [1, 5] (fun q i wr => ∃ (k : Nat) (l : Int), k ≤ bs.length ∧ i = .int .i64 k ∧ q = .int .i64 l ∧ (0 ≤ l ∧ l ≤ left ∧ l + (totB (bs.take k) : Int) ≤ left) ∧ (∀ j (hj : j < bs.length), j < k → bs[j].nm.size ≤ 1048576 ∧ bs[j].rs.length ≤ 1048576) ∧ Below w.heap.size w wr) (fun _ i _ => bs.length - (intOf i).toNat)
    case atStart => exact ⟨0, left - (bs.length : Int), Nat.zero_le _, rfl, rfl, ⟨by omega, by omega, by rw [show totB (bs.take 0) = 0 from rfl]; omega⟩, fun j _ hj => by omega, Below.refl _ _⟩
    case round =>
      obtain ⟨k, l, hk, rfl, rfl, hlq, hall, hb⟩ := hrel
      have HA : Hid _ := hall
      clear hall
      by_cases hlt : k < bs.length
      · obtain ⟨g, off, rfl, hg, a0, a1, a2, a3, a4⟩ := HC.out k hlt
        have rm := ((RM.out bs[k] (List.getElem_mem hlt)).below hb).mono hb.size
        have rn := RN.out bs[k] (List.getElem_mem hlt)
        have HTT : Hid _ := totB_take bs k hlt
        obtain ⟨x, hx⟩ : ∃ x, bs[k] = x := ⟨_, rfl⟩
        have HX : Hid (bs[k] = x) := hx
        rw [hx] at a0 a1 a2 a3 a4 rm rn HTT
        clear hx HC RM RN
        obtain ⟨nm, sz, m, rs, fx, ep⟩ := x
        simp only at a0 a1 a2 a3 a4 rm rn
        obtain ⟨o', cap', rfl⟩ := rm.form
        replace a0 := (hb.cell (p := ⟨g, off + k * 5, none⟩) hg).trans a0
        replace a1 := (hb.cell (p := ⟨g, off + k * 5 + 1, none⟩) hg).trans a1
        replace a2 := (hb.cell (p := ⟨g, off + k * 5 + 2, none⟩) hg).trans a2
        replace a3 := (hb.cell (p := ⟨g, off + k * 5 + 3, none⟩) hg).trans a3
        replace a4 := (hb.cell (p := ⟨g, off + k * 5 + 4, none⟩) hg).trans a4
        go_wp2_with fail
        refine (szBook2_any nm sz _ rs fx ep l _ rn hlq.1 (by omega) rm).mono ?_
        rintro e w1 ⟨q, rfl, hq, b1⟩
        replace hb := bw_call hb b1
        clear a0 a1 a2 a3 a4 b1 rm rn
        rcases hq with rfl | ⟨hq0, hq1, hq2, hq3, hq4⟩
        · go_wp2_with fail
          go_ret
          exact ⟨-1, rfl, .inl rfl, hb⟩
        · have HN : Hid (∀ j (hj : j < bs.length), j < k + 1 → bs[j].nm.size ≤ 1048576 ∧ bs[j].rs.length ≤ 1048576) := fun j hj hjk => by
            rcases Nat.lt_or_ge j k with y | y
            · exact HA.out j hj y
            · obtain rfl : j = k := by omega
              rw [HX.out]
              exact ⟨hq2, hq3⟩
          have HSS : Hid (q + (totB (bs.take (k + 1)) : Int) ≤ left) := by have h := HTT.out; rw [Hid, h]; omega
          clear HA HX hq2 hq3 hq4 HTT
          go_wp2_with fail
          go_roundw
          case rel => exact ⟨k + 1, q, by omega, by go_num, rfl, ⟨by omega, by omega, HSS.out⟩, HN.out, hb⟩
          case measure => simp [intOf]; omega
      · have HB : Hid (∀ b ∈ bs, b.nm.size ≤ 1048576 ∧ b.rs.length ≤ 1048576) := fun b hbm => by
          obtain ⟨j, hj, rfl⟩ := List.getElem_of_mem hbm
          exact HA.out j hj (by omega)
        have htk : bs.take k = bs := List.take_of_length_le (by omega)
        rw [htk] at hlq
        have HLQ : Hid _ := hlq
        have hl1 := hlq.1
        have hl2 := hlq.2.1
        clear HA HC RM RN hlq htk
        go_wp2_with fail
        go_ret
        exact ⟨l, rfl, .inr ⟨HLQ.out.1, HLQ.out.2.1, by omega, HB.out, by have := HLQ.out.2.2; omega⟩, hb⟩

set_option maxHeartbeats 1600000 in
theorem szShelf2_any (v1 v2 vb : Value) (cs ps : List Int) (bks : List Bk) (left : Int) (w : World) (h0 : 0 ≤ left) (hl : left ≤ 1048576) (hn : ∀ b ∈ bks, b.nm.size ≤ maxLen) (r : RS w.heap.size w v1 v2 vb cs ps bks) :
    Calls Try.prog 19 #[.agg #[v1, v2, vb], .int .i64 left] w fun e w' => ∃ q : Int, e = .returned (.int .i64 q) ∧ (q = -1 ∨ (0 ≤ q ∧ q ≤ left ∧ cs.length ≤ 1048576 ∧ ps.length ≤ 1048576 ∧ bks.length ≤ 1048576 ∧ (∀ b ∈ bks, b.nm.size ≤ 1048576 ∧ b.rs.length ≤ 1048576) ∧ totB bks ≤ 1048576)) ∧ Below w.heap.size w w' := by
  obtain ⟨o1, k1, o2, k2, ob, kb, rfl, rfl, rfl⟩ := r.forms
  obtain ⟨W0, hW0, k0, d0, z0⟩ := box1 w #[.slice o1 cs.length k1, .slice o2 ps.length k2, .slice ob bks.length kb] 57
  have HW0 : Hid (W0 = _) := hW0
  have r0 := (r.below d0).mono d0.size
  clear hW0 z0 r
  go_enter Try.func19, Try.ntmps19
  go_wp2_with fail
  rw [← HW0.out]
  clear HW0
  refine (szPool_any _ _ cs ps left _ h0 hl r0.p).mono ?_
  rintro e w1 ⟨q, rfl, hq, b1⟩
  replace k0 := (b1.block _ (heap_lt k0)).trans k0
  replace d0 := bw_call d0 b1
  replace r0 := (r0.below b1).mono b1.size
  clear b1
  rcases hq with rfl | ⟨hq0, hq1, hq2, hq3⟩
  · clear k0 r0
    go_wp2_with fail
    go_ret
    exact ⟨-1, rfl, .inl rfl, d0⟩
  have p2 := at_cell k0 2
  go_wp2_with fail
  clear p2
  refine (szBooks2_any _ bks q _ hq0 (by omega) hn r0.b).mono ?_
  rintro e w2 ⟨q', rfl, hq', b2⟩
  replace d0 := bw_call d0 b2
  clear b2 k0 r0
  rcases hq' with rfl | ⟨h1, h2, h3, h4⟩
  · go_wp2_with fail
    go_ret
    exact ⟨-1, rfl, .inl rfl, d0⟩
  have H4 : Hid _ := h4
  clear h4
  go_wp2_with fail
  go_ret
  exact ⟨q', rfl, .inr ⟨h1, by omega, hq2, hq3, h3, H4.out.1, by have := H4.out.2; omega⟩, d0⟩
end Go.Proofs.Ytkjdfgjmkomcgaa

namespace Go.Proofs.Ytkjdfgjmkomcgaa
open Go.RowKit

set_option linter.unusedVariables false

set_option maxRecDepth 100000


def intC (x : Int) : List Value := [.int .i64 x]

theorem intC_len (x : Int) : (intC x).length = 1 := rfl

theorem flat_intC (xs : List Int) : xs.flatMap intC = xs.map (Value.int .i64) := by
  induction xs with
  | nil => rfl
  | cons x t ih => rw [List.flatMap_cons, ih]; rfl

theorem readsK_to {B : Nat} {w : World} {v : Value} {xs : List Int} (h : ReadsR 1 intC B w v xs) : Reads B w v (xs.map (Value.int .i64)) := by
  obtain ⟨o, cap, hv, hm, hc, hr⟩ := h
  refine ⟨o, cap, by rw [List.length_map]; exact hv, by rw [List.length_map]; exact hm, fun i u hi => ?_, by rw [List.length_map]; exact hr⟩
  rw [List.getElem?_map] at hi
  cases hx : xs[i]? with
  | none => rw [hx] at hi; cases hi
  | some x =>
    rw [hx] at hi
    simp only [Option.map_some, Option.some.injEq] at hi
    subst hi
    obtain ⟨g, off, e, hg, hc'⟩ := hc i x hx
    exact ⟨g, off, e, hg, by simpa using hc' 0 _ rfl⟩

/-- A plain: its cells, and the values that it reads. -/
structure Pk where
  nm : ByteArray
  sz : Int
  m : Value
  rs : List Int
  fx : Bool
  ep : Int

def pkC (b : Pk) : List Value := [.string b.nm, .int .i64 b.sz, b.m, .bool b.fx, .int .i64 b.ep]

theorem pkC_len (b : Pk) : (pkC b).length = 5 := rfl

/-- A row of plains that is read, the values too. -/
structure ReadsK (B : Nat) (w : World) (v : Value) (bs : List Pk) : Prop where
  row : ReadsR 5 pkC B w v bs
  maps : ∀ b ∈ bs, ReadsR 1 intC B w b.m b.rs

theorem ReadsK.below {B : Nat} {w w' : World} {v : Value} {bs : List Pk} (h : ReadsK B w v bs) (k : Below B w w') : ReadsK B w' v bs := ⟨h.row.below k, fun b hb => (h.maps b hb).below k⟩

theorem ReadsK.mono {B B' : Nat} {w : World} {v : Value} {bs : List Pk} (h : ReadsK B w v bs) (k : B ≤ B') : ReadsK B' w v bs := ⟨h.row.mono k, fun b hb => (h.maps b hb).mono k⟩

theorem eqIntsK_any (v1 v2 : Value) (xs ys : List Int) (w : World) (h1 : ReadsR 1 intC w.heap.size w v1 xs) (h2 : ReadsR 1 intC w.heap.size w v2 ys) :
    Calls Try.prog 89 #[v1, v2] w fun e w' => e = .returned (.bool (decide (xs = ys))) ∧ Below w.heap.size w w' := eqInts_any v1 v2 xs ys w (readsK_to h1) (readsK_to h2)

theorem markedKRow_any (v : Value) (base : Nat) (k : Int) (xs : List Int) (w : World) (hk : 0 ≤ k) (hk2 : k ≤ 1073741824) (hn : xs.length ≤ 1048576) (hbase : base ≤ w.heap.size) (own : w.ownsRow base 2 1 v xs.length (xs.flatMap intC)) :
    Calls Try.prog 55 #[v, .int .i64 k] w fun e w' => e = .returned (.int .i64 (k + xs.length)) ∧ w'.ownsRow base 2 1 v (marksI k xs.length).length ((marksI k xs.length).flatMap intC) ∧ Below base w w' ∧ w.heap.size ≤ w'.heap.size ∧ ∀ i, i < w.heap.size → v.ownBlock ≠ some i → w'.heap[i]? = w.heap[i]? := by
  rw [flat_intC] at own
  rw [flat_intC, marksI_length]
  exact markedIRow_any v xs.length base k _ w hk (by omega) hbase own

theorem heldK_any (v : Value) (n : Nat) (k : Int) (w : World) (hk : 0 ≤ k) (hk2 : k ≤ 1073741824) (hn : n ≤ 1048576) (hr : ReadsR 1 intC w.heap.size w v (marksI k n)) :
    Calls Try.prog 56 #[v, .int .i64 k] w fun e w' => e = .returned (.int .i64 (k + n)) ∧ Below w.heap.size w w' := heldI_any v n k w hk (by omega) (readsK_to hr)
end Go.Proofs.Ytkjdfgjmkomcgaa

namespace Go.Proofs.Ytkjdfgjmkomcgaa
open Go.RowKit

set_option linter.unusedVariables false

set_option maxRecDepth 100000


/-- A plain, all of it but where its values lie. -/
structure Pv where
  nm : ByteArray
  sz : Int
  vs : List Int
  fx : Bool
  ep : Int

def Pk.pv (b : Pk) : Pv := ⟨b.nm, b.sz, b.rs, b.fx, b.ep⟩

def valuesB (vs : List Int) : Bool := vs.all (fun v => decide (0 ≤ v) && decide (v ≤ 999))

def plainOk (nm : ByteArray) (sz : Int) (vs : List Int) (ep : Int) : Bool :=
  valuesB vs && Nums.nameB nm.data.toList && (decide (1 ≤ sz) && decide (sz ≤ 16)) && (decide (0 ≤ ep) && decide (ep ≤ 1000)) && decide ((vs.length : Int) = sz)

def Pv.ok (p : Pv) : Bool := plainOk p.nm p.sz p.vs p.ep

/-- The same as books without pages. -/
def Pv.pb (p : Pv) : Pb := ⟨p.nm, p.sz, [], p.fx, p.ep⟩

/-- One cell of each value. -/
theorem one_cellK {B : Nat} {w : World} {o : Option Addr} {vs : List Int} (hc : ∀ i x, vs[i]? = some x → ∃ g off, o = some ⟨g, off, none⟩ ∧ g < B ∧ ∀ j u, (intC x)[j]? = some u → w.cell? ⟨g, off + i * 1 + j, none⟩ = some u) (i : Nat) (hi : i < vs.length) :
    ∃ g off, o = some ⟨g, off, none⟩ ∧ g < B ∧ w.cell? ⟨g, off + i, none⟩ = some (.int .i64 vs[i]) := by
  obtain ⟨g, off, e, hg, hx⟩ := hc i vs[i] (List.getElem?_eq_getElem hi)
  exact ⟨g, off, e, hg, by simpa using hx 0 _ rfl⟩
end Go.Proofs.Ytkjdfgjmkomcgaa

namespace Go.Proofs.Ytkjdfgjmkomcgaa
set_option linter.unusedVariables false

set_option maxRecDepth 100000


def valAt (ps : List Int) (rs : List (Int × Int × Int)) (k : Nat) : Int := if (pages rs).getD k 0 < 0 then 0 else ps.getD ((pages rs).getD k 0).toNat 0

def shownV (ps : List Int) (rs : List (Int × Int × Int)) (n : Nat) : List Int := (List.range n).map (valAt ps rs)

theorem shownV_succ (ps : List Int) (rs : List (Int × Int × Int)) (n : Nat) : shownV ps rs (n + 1) = shownV ps rs n ++ [valAt ps rs n] := by simp [shownV, List.range_succ]

theorem shownV_len (ps : List Int) (rs : List (Int × Int × Int)) (n : Nat) : (shownV ps rs n).length = n := by simp [shownV]

def shownP (ps : List Int) (b : Pb) : Pv := ⟨b.nm, b.sz, shownV ps b.rs b.sz.toNat, b.fx, b.ep⟩

def shownPlain (s : Sf) : List Pv := if shelfOk s = true then s.bs.map (shownP s.ps) else []

theorem shown_parts {s : Sf} (h : ShInv s) (i : Nat) (hi : i < s.bs.length) : mapOk s.bs[i].rs = true ∧ (1 ≤ s.bs[i].sz ∧ s.bs[i].sz ≤ 16) ∧ ∀ k, k < 16 → -1 ≤ (pages s.bs[i].rs).getD k 0 ∧ (pages s.bs[i].rs).getD k 0 < s.ps.length := by
  obtain ⟨-, hs, -, hm, -⟩ := book_parts (h.oks _ (List.getElem_mem hi))
  refine ⟨hm, hs, fun k hk => ⟨(pages_range _ hm k hk).1, ?_⟩⟩
  by_cases h0 : 0 ≤ (pages s.bs[i].rs).getD k 0
  · have hl : k < (pages s.bs[i].rs).length := by rw [pages_length]; exact hk
    have e : (pages s.bs[i].rs).getD k 0 = (pages s.bs[i].rs)[k] := by simp [hl]
    have := (h.page i hi _ (by rw [e]; exact List.getElem_mem hl) h0).1
    have h2 := h.cells.p
    omega
  · have := h.cells.p
    have := h.n1
    omega
end Go.Proofs.Ytkjdfgjmkomcgaa

namespace Go.Proofs.Ytkjdfgjmkomcgaa
open Go.RowKit

set_option linter.unusedVariables false

set_option maxRecDepth 100000


theorem OwnB.rng {lo hi base : Nat} {w w' : World} {v : Value} {bs : List Bk} (h : OwnB base w v bs) (k : Rng lo hi w w') (hb : hi ≤ base) : OwnB base w' v bs := ⟨own_rng h.row k hb, fun b hbm => own_rng (h.maps b hbm) k hb⟩

theorem OwnS.rng {lo hi base : Nat} {w w' : World} {v1 v2 vb : Value} {cs ps : List Int} {bks : List Bk} (h : OwnS base w v1 v2 vb cs ps bks) (k : Rng lo hi w w') (hb : hi ≤ base) : OwnS base w' v1 v2 vb cs ps bks := ⟨h.p.rng k hb, h.b.rng k hb, h.a⟩

/-- The blocks of a shelf of one's own. -/
theorem OwnS.span {base : Nat} {w : World} {v1 v2 vb : Value} {cs ps : List Int} {bks : List Bk} (h : OwnS base w v1 v2 vb cs ps bks) : (∀ g, (v1.ownBlock = some g ∨ v2.ownBlock = some g) → base ≤ g ∧ g < w.heap.size) ∧ (∀ g, vb.ownBlock = some g → g < w.heap.size) ∧ ∀ b ∈ bks, ∀ g, b.m.ownBlock = some g → g < w.heap.size :=
  ⟨h.p.span, fun g hg => (h.b.row.lt g hg).2, fun b hb g hg => ((h.b.maps b hb).lt g hg).2⟩

/-- A row of one type stays where rows of another type are written. -/
theorem own_apart {w : World} {base base' : Nat} {e e' : TypeId} {k k' n n' : Nat} {v v' : Value} {xs ys : List Value} (h : w.ownsRow base e k v n xs) (h' : w.ownsRow base' e' k' v' n' ys) (hne : e' ≠ e) (g : Nat) (hg : v'.ownBlock = some g) : v.ownBlock ≠ some g := by
  rcases h'.2 with ⟨rfl, _⟩ | ⟨g', cap', cur, rfl, _, hh, _⟩
  · simp [Value.ownBlock] at hg
  · simp [Value.ownBlock] at hg
    subst hg
    exact own_not_box h hh hne

/-- Only what is of the pool's type is written: the books stay. -/
theorem OwnB.pooled {lo base : Nat} {w w' : World} {v1 v2 vb : Value} {cs ps : List Int} {bks : List Bk} (h : OwnB base w vb bks) (p : OwnP lo w v1 v2 cs ps) (k : ∀ i, i < w.heap.size → v1.ownBlock ≠ some i → v2.ownBlock ≠ some i → w'.heap[i]? = w.heap[i]?) : OwnB base w' vb bks := by
  have st : ∀ (e : TypeId) (kk n : Nat) (v : Value) (xs : List Value), 2 ≠ e → w.ownsRow base e kk v n xs → w'.ownsRow base e kk v n xs := fun e kk n v xs he hr =>
    own_rng_not hr (fun q hq hqv => k q hq (fun hx => own_apart hr p.c he q hx hqv) (fun hx => own_apart hr p.p he q hx hqv))
  exact ⟨st _ _ _ _ _ (by decide) h.row, fun b hb => st _ _ _ _ _ (by decide) (h.maps b hb)⟩

set_option maxHeartbeats 800000 in
theorem markPoolO_any (v1 v2 : Value) (cs ps : List Int) (lo : Nat) (k : Int) (w : World) (hk : 0 ≤ k) (hc : cs.length ≤ 1048576) (hp : ps.length ≤ 1048576) (hk2 : k ≤ 1073741824) (own : OwnP lo w v1 v2 cs ps) (hlo : lo ≤ w.heap.size) :
    Calls Try.prog 52 #[.agg #[v1, v2], .int .i64 k] w fun e w' => e = .returned (.int .i64 (k + cs.length + ps.length)) ∧ OwnP lo w' v1 v2 (marksI k cs.length) (marksI (k + cs.length) ps.length) ∧ w'.os = w.os ∧ w'.tape = w.tape ∧ w'.output = w.output ∧ w.heap.size ≤ w'.heap.size ∧ ∀ i, i < w.heap.size → v1.ownBlock ≠ some i → v2.ownBlock ≠ some i → w'.heap[i]? = w.heap[i]? := by
  obtain ⟨W0, hW0, k0, d0, z0⟩ := box1 w #[v1, v2] 26
  have own0 := own.below d0
  have HW0 : Hid (W0 = _) := hW0
  have HA : Hid _ := own.apart
  clear hW0 own
  go_enter Try.func52, Try.ntmps52
  go_wp2_with fail
  rw [← HW0.out]
  clear HW0
  have HB1 : Hid (v1.ownBlock ≠ some w.heap.size) := own_not_box own0.c k0 (by decide)
  refine (markedIRow_any v1 cs.length lo k _ _ hk (by omega) (by omega) own0.c).mono ?_
  rintro e w1 ⟨rfl, o1, b1, s1, f1⟩
  have k01 := (f1 _ (by omega) HB1.out).trans k0
  have o2 : w1.ownsRow lo 2 1 v2 ps.length (ps.map (Value.int .i64)) := own_rng_not own0.p (fun g hg hv => f1 g hg (fun h => HA.out g h hv))
  have p1 := at_cell k01 1
  have F1 : Hid (w1.os = w.os ∧ w1.tape = w.tape ∧ w1.output = w.output ∧ w.heap.size ≤ w1.heap.size ∧ ∀ i, i < w.heap.size → v1.ownBlock ≠ some i → w1.heap[i]? = w.heap[i]?) := ⟨b1.os.trans d0.os, b1.tape.trans d0.tape, b1.output.trans d0.output, by omega, fun i hi' hc => (f1 i (by omega) hc).trans (d0.block i hi')⟩
  clear f1 k0 own0 b1 d0
  go_wp2_with fail
  clear p1
  refine (markedIRow_any v2 ps.length lo (k + cs.length) _ _ (by omega) (by omega) (by omega) o2).mono ?_
  rintro e w2 ⟨rfl, o3, b2, s2, f2⟩
  have o4 : w2.ownsRow lo 2 1 v1 cs.length ((marksI k cs.length).map (Value.int .i64)) := own_rng_not o1 (fun g hg hv => f2 g hg (fun h => HA.out g hv h))
  have HO : Hid (OwnP lo w2 v1 v2 (marksI k cs.length) (marksI (k + cs.length) ps.length)) := ⟨by rw [marksI_length]; exact o4, by rw [marksI_length]; exact o3, HA.out⟩
  have HE : Hid (w2.os = w.os ∧ w2.tape = w.tape ∧ w2.output = w.output ∧ w.heap.size ≤ w2.heap.size ∧ ∀ i, i < w.heap.size → v1.ownBlock ≠ some i → v2.ownBlock ≠ some i → w2.heap[i]? = w.heap[i]?) := by
    obtain ⟨q1, q2, q3, q4, q5⟩ := F1.out
    exact ⟨b2.os.trans q1, b2.tape.trans q2, b2.output.trans q3, by omega, fun i hi' h1 h2 => (f2 i (by omega) h2).trans (q5 i hi' h1)⟩
  clear f2 o1 o2 o3 o4 b2 k01
  go_wp2_with fail
  go_ret
  exact ⟨rfl, HO.out, HE.out⟩

def shelfE (k : Int) (cs ps : List Int) (bks : List Bk) : Int := marksE (k + cs.length + ps.length) bks

set_option maxHeartbeats 1600000 in
theorem markShelf_any (v1 v2 vb : Value) (cs ps : List Int) (bks : List Bk) (lo hi : Nat) (k : Int) (w : World) (hk : 0 ≤ k) (hc : cs.length ≤ 1048576) (hp : ps.length ≤ 1048576) (hk2 : shelfE k cs ps bks ≤ 1073741824) (hn : ∀ b ∈ bks, b.rs.length ≤ 1048576) (own : OwnS lo w v1 v2 vb cs ps bks) (h1 : ∀ g, (v1.ownBlock = some g ∨ v2.ownBlock = some g) → lo ≤ g ∧ g < hi) (h2 : ∀ g, vb.ownBlock = some g → g < hi) (h3 : ∀ b ∈ bks, ∀ g, b.m.ownBlock = some g → g < hi) (hlo : lo ≤ w.heap.size) (hhi : hi ≤ w.heap.size) :
    Calls Try.prog 23 #[.agg #[v1, v2, vb], .int .i64 k] w fun e w' => e = .returned (.int .i64 (shelfE k cs ps bks)) ∧ OwnS lo w' v1 v2 vb (marksI k cs.length) (marksI (k + cs.length) ps.length) (marksB (k + cs.length + ps.length) bks) ∧ Rng lo hi w w' := by
  obtain ⟨o1, k1, o2, k2, ob, kb, rfl, rfl, rfl⟩ := own.forms
  obtain ⟨W0, hW0, k0, d0, z0⟩ := box1 w #[.slice o1 cs.length k1, .slice o2 ps.length k2, .slice ob bks.length kb] 29
  have own0 := own.below d0
  have HW0 : Hid (W0 = _) := hW0
  have HN : Hid _ := hn
  have H2 : Hid _ := h2
  have H3 : Hid _ := h3
  have H1 : Hid _ := h1
  have hb1 := own_not_box own0.p.c k0 (by decide)
  have hb2 := own_not_box own0.p.p k0 (by decide)
  have hkm := marksE_ge bks (k + cs.length + ps.length)
  unfold shelfE at hk2 ⊢
  have HB : Hid _ := And.intro hb1 hb2
  clear hW0 own hn h1 h2 h3 hb1 hb2
  go_enter Try.func23, Try.ntmps23
  go_wp2_with fail
  rw [← HW0.out]
  clear HW0
  refine (markPoolO_any _ _ cs ps lo k _ hk hc hp (by omega) own0.p (by omega)).mono ?_
  rintro e w1 ⟨rfl, op, q1, q2, q3, q4, q5⟩
  have ob1 := own0.b.pooled own0.p q5
  have k01 := (q5 _ (by omega) HB.out.1 HB.out.2).trans k0
  have R1 : Rng lo hi w w1 := ⟨q1.trans d0.os, q2.trans d0.tape, q3.trans d0.output, by omega, fun i hi' hc => (q5 i (by omega) (fun h => by have := H1.out i (.inl h); omega) (fun h => by have := H1.out i (.inr h); omega)).trans (d0.block i hi')⟩
  have HAP : Hid _ := own0.a
  have p2 := at_cell k01 2
  have HNB : Hid (∀ i, (Value.slice ob bks.length kb).ownBlock = some i → (Value.slice o1 cs.length k1).ownBlock ≠ some i ∧ (Value.slice o2 ps.length k2).ownBlock ≠ some i) := fun i h => ⟨own_apart own0.p.c own0.b.row (by decide) i h, own_apart own0.p.p own0.b.row (by decide) i h⟩
  have HNM : Hid (∀ b ∈ bks, ∀ i, b.m.ownBlock = some i → (Value.slice o1 cs.length k1).ownBlock ≠ some i ∧ (Value.slice o2 ps.length k2).ownBlock ≠ some i) := fun b hb i h => ⟨own_apart own0.p.c (own0.b.maps b hb) (by decide) i h, own_apart own0.p.p (own0.b.maps b hb) (by decide) i h⟩
  have z1 := R1.size
  clear q1 q2 q3 q4 q5 own0 d0 k0 k01
  go_wp2_with fail
  clear p2
  refine (markBooksO_any _ bks lo (k + cs.length + ps.length) _ (by omega) hk2 HN.out ob1 HAP.out (by omega)).mono ?_
  rintro e w2 ⟨rfl, ow2, q1, q2, q3, q4, q5⟩
  have op2 : OwnP lo w2 (.slice o1 cs.length k1) (.slice o2 ps.length k2) (marksI k cs.length) (marksI (k + cs.length) ps.length) := ⟨own_rng_not op.c (fun g hg hv => q5 g hg (fun h => (HNB.out g h).1 hv) (fun b hb h => (HNM.out b hb g h).1 hv)), own_rng_not op.p (fun g hg hv => q5 g hg (fun h => (HNB.out g h).2 hv) (fun b hb h => (HNM.out b hb g h).2 hv)), op.apart⟩
  have R2 : Rng lo hi w w2 := R1.trans ⟨q1, q2, q3, q4, fun i hi' hc => q5 i hi' (fun h => by have := H2.out i h; have := (ob1.row.lt i h).1; omega) (fun b hb h => by have := H3.out b hb i h; have := ((ob1.maps b hb).lt i h).1; omega)⟩
  have HO : Hid (OwnS lo w2 (.slice o1 cs.length k1) (.slice o2 ps.length k2) (.slice ob bks.length kb) (marksI k cs.length) (marksI (k + cs.length) ps.length) (marksB (k + cs.length + ps.length) bks)) := ⟨op2, ow2, apart_ms (marksB_ms _ _) HAP.out⟩
  clear q1 q2 q3 q4 q5 op op2 ow2 R1 ob1
  go_wp2_with fail
  go_ret
  exact ⟨rfl, HO.out, R2⟩
end Go.Proofs.Ytkjdfgjmkomcgaa

