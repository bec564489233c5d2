/-
  Contracts and plain laws, one chapter behind the other.
-/
import Derived.Test.YtcefcglonooelaaGreatDoorM02
import Derived.Test.YtcefcglonooelaaGreatDoorM03
import Derived.Test.YtcefcglonooelaaGreatDoorM04
import Derived.Test.YtcefcglonooelaaGreatDoorM06
namespace Go.Proofs.YtcefcglonooelaaGreatDoor
open Go.RowKit

set_option linter.unusedVariables false

set_option maxRecDepth 100000


/-- A pool that is read: its rows. -/
structure RP (B : Nat) (w : World) (v1 v2 : Value) (cs ps : List Int) : Prop where
  c : Reads B w v1 (cs.map (Value.int .i64))
  p : Reads B w v2 (ps.map (Value.int .i64))

theorem RP.below {B : Nat} {w w' : World} {v1 v2 : Value} {cs ps : List Int} (h : RP B w v1 v2 cs ps) (k : Below B w w') : RP B w' v1 v2 cs ps := ⟨h.c.below k, h.p.below k⟩

theorem RP.mono {B B' : Nat} {w : World} {v1 v2 : Value} {cs ps : List Int} (h : RP B w v1 v2 cs ps) (k : B ≤ B') : RP B' w v1 v2 cs ps := ⟨h.c.mono k, h.p.mono k⟩

theorem RP.of {B : Nat} {W : World} {v1 v2 : Value} {cs ps : List Int} (h : RP B W v1 v2 cs ps) (y : B ≤ W.heap.size) (p : BelowOf W) : RP p.w'.heap.size p.w' v1 v2 cs ps := ((h.mono y).below p.h).mono p.h.size

theorem OwnP.reads {base : Nat} {w : World} {v1 v2 : Value} {cs ps : List Int} (h : OwnP base w v1 v2 cs ps) : RP w.heap.size w v1 v2 cs ps := ⟨h.r1, h.r2⟩

theorem OwnP.rng {lo hi base : Nat} {w w' : World} {v1 v2 : Value} {cs ps : List Int} (h : OwnP base w v1 v2 cs ps) (k : Rng lo hi w w') (hb : hi ≤ base) : OwnP base w' v1 v2 cs ps := ⟨own_rng h.c k hb, own_rng h.p k hb, h.apart⟩

/-- The blocks of a pool of one's own lie from base on, below the end of memory. -/
theorem OwnP.span {base : Nat} {w : World} {v1 v2 : Value} {cs ps : List Int} (h : OwnP base w v1 v2 cs ps) : ∀ g, (v1.ownBlock = some g ∨ v2.ownBlock = some g) → base ≤ g ∧ g < w.heap.size := by
  rintro g (h1 | h1)
  · exact h.c.lt g h1
  · exact h.p.lt g h1
end Go.Proofs.YtcefcglonooelaaGreatDoor

namespace Go.Proofs.YtcefcglonooelaaGreatDoor
open Go.RowKit

set_option linter.unusedVariables false

set_option maxRecDepth 100000

theorem cnt_out {s : Sf} (h : ShInv s) (i : Nat) (hi : i < s.bs.length) (k : Nat) (h1 : s.cs.length ≤ k) (h2 : k < 24) : s.bs[i].cnt (k : Int) = 0 := by
  have := cntAll_at s.bs i hi (k : Int)
  have := cnt_nonneg s.bs[i] (k : Int)
  have := h.out k h1 h2
  omega

/-- A book is put in its place. -/
theorem ShInv.put {s : Sf} (h : ShInv s) (i : Nat) (hi : i < s.bs.length) (b : Pb) (hok : b.ok = true) (hn : b.nm = s.bs[i].nm) (cs ps : List Int) (hc : Cells s.cs.length cs ps)
    (hcnt : ∀ k, k < s.cs.length → cs.getD k 0 = s.cs.getD k 0 - s.bs[i].cnt (k : Int) + b.cnt (k : Int)) (hout : ∀ k, s.cs.length ≤ k → k < 24 → b.cnt (k : Int) = 0) : ShInv ⟨cs, ps, s.bs.set i b⟩ := by
  have hl := hc.c
  refine ⟨by simp only; rw [hl]; exact h.n1, by simp only; rw [hl]; exact hc, by simpa using h.few, fun x hx => ?_, ?_, fun k hk => ?_, fun k hk hk2 => ?_⟩
  · rcases List.mem_or_eq_of_mem_set hx with hx | rfl
    · exact h.oks x hx
    · exact hok
  · simp only
    rw [List.map_set, hn]
    have : (s.bs.map Pb.nm).set i s.bs[i].nm = s.bs.map Pb.nm := by
      have e : s.bs[i].nm = (s.bs.map Pb.nm)[i]'(by simpa using hi) := by simp
      rw [e, List.set_getElem_self]
    rw [this]
    exact h.srt
  · simp only at hk ⊢
    rw [hl] at hk
    rw [hcnt k hk, cntAll_set s.bs i hi, h.cnt k hk]
  · simp only at hk ⊢
    rw [hl] at hk
    rw [cntAll_set s.bs i hi, h.out k hk hk2, cnt_out h i hi k hk hk2, hout k hk hk2]
    rfl

theorem Cells.same {n : Nat} {cs ps : List Int} (h : Cells n cs ps) (p : Nat) (hp : p < n) (v : Int) (hv : 0 ≤ v ∧ v ≤ 999) (hc : cs.getD p 0 ≠ 0) : Cells n cs (ps.set p v) :=
  ⟨h.c, by simpa using h.p, fun k hk => by
    rw [getD_set ps p k v (by rw [h.p]; exact hp)]
    have := h.val k hk
    by_cases e : p = k
    · subst e; rw [if_pos rfl]; exact ⟨hv.1, hv.2, fun q => absurd q hc⟩
    · rw [if_neg e]; exact this⟩
end Go.Proofs.YtcefcglonooelaaGreatDoor

namespace Go.Proofs.YtcefcglonooelaaGreatDoor
open Go.RowKit

set_option linter.unusedVariables false

set_option maxRecDepth 100000


/-- What of an op that is right and not refused the shelf wants. -/
theorem op_parts {o : Oq} (h : opOk o = true) : Nums.nameB o.nm.data.toList = true ∧ (1 ≤ o.k ∧ o.k ≤ 9) ∧ (kOther o.k = true → Nums.nameB o.ot.data.toList = true) ∧ (0 ≤ o.at_ ∧ o.at_ ≤ 255) ∧ (kSize o.k = true → 1 ≤ o.va ∧ o.va ≤ 16) ∧ (o.k = 2 → 0 ≤ o.va ∧ o.va ≤ 999) := by
  simp only [opOk, Bool.and_eq_true, inB_iff] at h
  obtain ⟨⟨⟨⟨⟨⟨⟨⟨h1, h2⟩, h3⟩, h4⟩, h5⟩, h6⟩, h7⟩, h8⟩, h9⟩ := h
  refine ⟨h1, h2, fun q => ?_, h6, fun q => ?_, fun q => ?_⟩
  · rw [q] at h4; simpa using h4
  · unfold valOk at h9; rw [if_pos q, inB_iff] at h9; exact h9
  · unfold valOk at h9
    rw [q] at h9
    simp only [kSize] at h9
    rw [if_neg (by decide), if_pos (by trivial), inB_iff] at h9
    exact h9

theorem refused_parts {bs : List Pb} {o : Oq} (h : refused bs o = 0) : (o.k ≠ 1 → 0 ≤ findP bs o.nm) ∧ (o.k = 1 → findP bs o.nm < 0 ∧ bs.length ≠ 6) ∧ (kOther o.k = true → findP bs o.ot < 0 ∧ (o.k ≠ 1 → bs.length ≠ 6)) ∧ (o.k ≠ 1 → kAt o.k = true → o.at_ < (bookAt bs (findP bs o.nm)).sz) ∧ (o.k = 8 → (bookAt bs (findP bs o.nm)).ep ≠ 1000) := by
  unfold refused at h
  split at h
  · omega
  rename_i h1
  split at h
  · omega
  rename_i h2
  have a1 : o.k ≠ 1 → 0 ≤ findP bs o.nm := fun q => by
    by_cases z : findP bs o.nm < 0
    · exact absurd ⟨q, z⟩ h1
    · omega
  have a3 : kOther o.k = true → findP bs o.ot < 0 := fun q => by
    by_cases z : 0 ≤ findP bs o.ot
    · exact absurd (.inr ⟨q, z⟩) h2
    · omega
  have a2 : o.k = 1 → findP bs o.nm < 0 := fun q => by
    by_cases z : 0 ≤ findP bs o.nm
    · exact absurd (.inl ⟨q, z⟩) h2
    · omega
  split at h
  · rename_i h3
    have a4 : bs.length ≠ 6 := fun q => by rw [if_pos q] at h; omega
    exact ⟨a1, fun q => ⟨a2 q, a4⟩, fun q => ⟨a3 q, fun _ => a4⟩, fun q => absurd h3 q, fun q => by omega⟩
  rename_i h3
  split at h
  · omega
  split at h
  · omega
  split at h
  · omega
  rename_i h6
  split at h
  · omega
  rename_i h7
  split at h
  · omega
  rename_i h8
  exact ⟨a1, fun q => absurd q h3, fun q => ⟨a3 q, fun _ z => h7 ⟨q, z⟩⟩, fun _ q => by
    by_cases z : (bookAt bs (findP bs o.nm)).sz ≤ o.at_
    · exact absurd ⟨q, z⟩ h6
    · omega, fun q z => h8 ⟨q, z⟩⟩
end Go.Proofs.YtcefcglonooelaaGreatDoor

namespace Go.Proofs.YtcefcglonooelaaGreatDoor
open Go.RowKit

set_option linter.unusedVariables false

set_option maxRecDepth 100000


def Bk.pb (b : Bk) : Pb := ⟨b.nm, b.sz, b.rs, b.fx, b.ep⟩

theorem sorted_adj : ∀ (l : List ByteArray), (∀ (j : Nat) (h1 : j + 1 < l.length), ltB (l[j]'(by omega)) l[j + 1] = true) → sortedB l = true
  | [], _ => rfl
  | [a], _ => rfl
  | a :: b :: t, h => by
    rw [sortedB, Bool.and_eq_true]
    refine ⟨h 0 (by simp), sorted_adj (b :: t) (fun j h1 => ?_)⟩
    have := h (j + 1) (by simp at h1 ⊢; omega)
    simpa using this

theorem sorted_not (l : List ByteArray) (j : Nat) (h1 : j + 1 < l.length) (h : ltB (l[j]'(by omega)) l[j + 1] = false) : sortedB l = false := by
  rw [Bool.eq_false_iff]
  intro q
  have := List.pairwise_iff_getElem.1 ((sorted_iff l).1 q) j (j + 1) (by omega) h1 (by omega)
  rw [h] at this
  cases this
end Go.Proofs.YtcefcglonooelaaGreatDoor

namespace Go.Proofs.YtcefcglonooelaaGreatDoor
open Go.RowKit

set_option linter.unusedVariables false

set_option maxRecDepth 100000


/-- A shelf that is read. -/
structure RS (B : Nat) (w : World) (v1 v2 vb : Value) (cs ps : List Int) (bks : List Bk) : Prop where
  p : RP B w v1 v2 cs ps
  b : ReadsB B w vb bks

theorem RS.below {B : Nat} {w w' : World} {v1 v2 vb : Value} {cs ps : List Int} {bks : List Bk} (h : RS B w v1 v2 vb cs ps bks) (k : Below B w w') : RS B w' v1 v2 vb cs ps bks := ⟨h.p.below k, h.b.below k⟩

theorem RS.mono {B B' : Nat} {w : World} {v1 v2 vb : Value} {cs ps : List Int} {bks : List Bk} (h : RS B w v1 v2 vb cs ps bks) (k : B ≤ B') : RS B' w v1 v2 vb cs ps bks := ⟨h.p.mono k, h.b.mono k⟩

/-- A shelf of one's own. -/
structure OwnS (base : Nat) (w : World) (v1 v2 vb : Value) (cs ps : List Int) (bks : List Bk) : Prop where
  p : OwnP base w v1 v2 cs ps
  b : OwnB base w vb bks
  a : ApartM bks

theorem OwnS.below {base : Nat} {w w' : World} {v1 v2 vb : Value} {cs ps : List Int} {bks : List Bk} (h : OwnS base w v1 v2 vb cs ps bks) (k : Below w.heap.size w w') : OwnS base w' v1 v2 vb cs ps bks := ⟨h.p.below k, h.b.below k, h.a⟩

theorem OwnS.mono {base base' : Nat} {w : World} {v1 v2 vb : Value} {cs ps : List Int} {bks : List Bk} (h : OwnS base w v1 v2 vb cs ps bks) (k : base' ≤ base) : OwnS base' w v1 v2 vb cs ps bks := ⟨h.p.mono k, h.b.mono k, h.a⟩

theorem OwnS.reads {base : Nat} {w : World} {v1 v2 vb : Value} {cs ps : List Int} {bks : List Bk} (h : OwnS base w v1 v2 vb cs ps bks) : RS w.heap.size w v1 v2 vb cs ps bks := ⟨h.p.reads, h.b.reads⟩
end Go.Proofs.YtcefcglonooelaaGreatDoor

namespace Go.Proofs.YtcefcglonooelaaGreatDoor
open Go.RowKit

set_option linter.unusedVariables false


/-! ### Plain -/
def markK (k : Int) (b : Pk) : Pk := ⟨markS k, k + 1, b.m, marksI (k + 1 + 1) b.rs.length, (k + 1 + 1 + b.rs.length) % 3 == 0, k + 1 + 1 + b.rs.length + 1⟩

def markNK (k : Int) (b : Pk) : Int := k + 1 + 1 + b.rs.length + 1 + 1

def marksK (k : Int) : List Pk → List Pk
  | [] => []
  | b :: t => markK k b :: marksK (markNK k b) t

def marksEK (k : Int) : List Pk → Int
  | [] => k
  | b :: t => marksEK (markNK k b) t

theorem marksEK_ge (bs : List Pk) : ∀ k : Int, k ≤ marksEK k bs := by
  induction bs with
  | nil => intro k; exact Int.le_refl _
  | cons b t ih => intro k; have := ih (markNK k b); rw [marksEK]; unfold markNK at *; omega

theorem marksEK_append (xs ys : List Pk) : ∀ k : Int, marksEK k (xs ++ ys) = marksEK (marksEK k xs) ys := by
  induction xs with
  | nil => intro k; rfl
  | cons b t ih => intro k; exact ih _

theorem marksK_append (xs ys : List Pk) : ∀ k : Int, marksK k (xs ++ ys) = marksK k xs ++ marksK (marksEK k xs) ys := by
  induction xs with
  | nil => intro k; rfl
  | cons b t ih => intro k; simp only [List.cons_append, marksK, marksEK, ih]

theorem marksK_length (bs : List Pk) : ∀ k : Int, (marksK k bs).length = bs.length := by
  induction bs with
  | nil => intro k; rfl
  | cons b t ih => intro k; simp [marksK, ih]

theorem marksEK_take (bs : List Pk) (k : Int) (j : Nat) (hj : j < bs.length) : marksEK k (bs.take (j + 1)) = markNK (marksEK k (bs.take j)) bs[j] := by
  rw [List.take_succ_eq_append_getElem hj, marksEK_append]; rfl

theorem marksK_take (bs : List Pk) (k : Int) (j : Nat) (hj : j < bs.length) : marksK k (bs.take (j + 1)) = marksK k (bs.take j) ++ [markK (marksEK k (bs.take j)) bs[j]] := by
  rw [List.take_succ_eq_append_getElem hj, marksK_append]; rfl

theorem marksEK_le (bs : List Pk) (k : Int) (j : Nat) : marksEK k (bs.take j) ≤ marksEK k bs := by
  have h := marksEK_ge (bs.drop j) (marksEK k (bs.take j))
  rwa [← marksEK_append, List.take_append_drop] at h

theorem marksK_ms (bs : List Pk) : ∀ k : Int, (marksK k bs).map Pk.m = bs.map Pk.m := by
  induction bs with
  | nil => intro k; rfl
  | cons b t ih => intro k; simp [marksK, markK, ih]

def totK (bs : List Pk) : Nat := bs.foldr (fun b n => b.rs.length + n) 0

theorem marksEK_tot (bs : List Pk) : ∀ k : Int, marksEK k bs = k + 4 * bs.length + totK bs := by
  induction bs with
  | nil => intro k; simp [marksEK, totK]
  | cons b t ih =>
    intro k
    have h : totK (b :: t) = b.rs.length + totK t := rfl
    rw [marksEK, ih, h, markNK, List.length_cons]
    omega

theorem apart_msK {bs ms : List Pk} (h : ms.map Pk.m = bs.map Pk.m) (a : ApartK bs) : ApartK ms := by
  have key : ∀ l : List Pk, ApartK l ↔ (l.map Pk.m).Pairwise (fun x y => ∀ g, x.ownBlock = some g → y.ownBlock ≠ some g) := fun l => by rw [List.pairwise_map]; exact Iff.rfl
  exact (key ms).2 (by rw [h]; exact (key bs).1 a)

/-- Another book's map lies in another block. -/
theorem apart_atK {bs : List Pk} (h : ApartK bs) (i j : Nat) (hi : i < bs.length) (hj : j < bs.length) (hne : i ≠ j) (g : Nat) (hg : bs[i].m.ownBlock = some g) : bs[j].m.ownBlock ≠ some g := by
  rcases Nat.lt_or_gt_of_ne hne with q | q
  · exact (List.pairwise_iff_getElem.1 h i j hi hj q) g hg
  · exact fun hx => (List.pairwise_iff_getElem.1 h j i hj hi q) g hx hg

/-- Cells of a row of books are written: the maps stay. -/
theorem maps_plain {w w' : World} {base g n cap : Nat} {xs : List Pk} (h : w.ownsRow base 51 5 (.slice (some ⟨g, 0, none⟩) n cap) xs.length (xs.flatMap pkC)) (u : Upto g w w') {v : Value} {k : Nat} {ys : List Value} (hm : w.ownsRow base 2 1 v k ys) : w'.ownsRow base 2 1 v k ys := by
  obtain ⟨cur, hcur⟩ : ∃ cur, w.heap[g]? = some (.cells cur 51 (0, 0)) := by
    rcases h.2 with ⟨e, _⟩ | ⟨g', cap', cur, e, _, hh, _⟩
    · simp at e
    · simp only [Value.slice.injEq, Option.some.injEq, Addr.mk.injEq, and_true] at e
      obtain ⟨rfl, _⟩ := e
      exact ⟨cur, hh⟩
  exact own_rng_not hm (fun q hq hqv => u.block q hq (fun hx => own_not_box hm hcur (by decide) (by rw [← hx]; exact hqv)))

theorem row_mapsK {w w' : World} {base g n cap : Nat} {xs : List Pk} (h : w.ownsRow base 51 5 (.slice (some ⟨g, 0, none⟩) n cap) xs.length (xs.flatMap pkC)) {v : Value} {k : Nat} {ys : List Value} (hm : w.ownsRow base 2 1 v k ys) (hh : ∀ i, i < w.heap.size → v.ownBlock ≠ some i → w'.heap[i]? = w.heap[i]?) : w'.ownsRow base 51 5 (.slice (some ⟨g, 0, none⟩) n cap) xs.length (xs.flatMap pkC) := by
  obtain ⟨cur, hcur⟩ : ∃ cur, w.heap[g]? = some (.cells cur 51 (0, 0)) := by
    rcases h.2 with ⟨e, _⟩ | ⟨g', cap', cur, e, _, hh, _⟩
    · simp at e
    · simp only [Value.slice.injEq, Option.some.injEq, Addr.mk.injEq, and_true] at e
      obtain ⟨rfl, _⟩ := e
      exact ⟨cur, hh⟩
  refine own_rng_not h (fun q hq hqv => hh q hq (fun hx => ?_))
  have hqg : q = g := by simpa [Value.ownBlock, eq_comm] using hqv
  subst hqg
  exact own_not_box hm hcur (by decide) hx

/-- The blocks of a row of books: its own, and its maps'. -/
def PkW (g : Nat) (bks : List Pk) (i : Nat) : Prop := i = g ∨ ∃ b ∈ bks, b.m.ownBlock = some i

set_option maxRecDepth 100000 in
set_option maxHeartbeats 6400000 in
theorem markPlainsO_any (vb : Value) (bks : List Pk) (lo : Nat) (k : Int) (w : World) (hk : 0 ≤ k) (hk2 : marksEK k bks ≤ 1073741824) (hn : ∀ b ∈ bks, b.rs.length ≤ 1048576) (own : OwnK lo w vb bks) (apa : ApartK bks) (hlo : lo ≤ w.heap.size) :
    Calls Tryz.prog 30 #[vb, .int .i64 k] w fun e w' => e = .returned (.int .i64 (marksEK k bks)) ∧ OwnK lo w' vb (marksK k bks) ∧ w'.os = w.os ∧ w'.tape = w.tape ∧ w'.output = w.output ∧ w.heap.size ≤ w'.heap.size ∧ ∀ i, i < w.heap.size → vb.ownBlock ≠ some i → (∀ b ∈ bks, b.m.ownBlock ≠ some i) → w'.heap[i]? = w.heap[i]? := by
  rcases Nat.eq_zero_or_pos bks.length with h0 | hpos
  · obtain rfl : bks = [] := List.length_eq_zero_iff.1 h0
    obtain ⟨o, cap, rfl⟩ := own_slice own.row
    have HO : Hid _ := own
    clear own
    go_enter Tryz.func30, Tryz.ntmps30
    go_wp2
    refine wp_loop_rounds 1 ?_
    rw [rounds_succ]
    go_wp2
    go_ret
    exact ⟨rfl, HO.out, rfl, rfl, rfl, Nat.le_refl _, fun _ _ _ _ => rfl⟩
  obtain ⟨n, hn1⟩ : ∃ n, bks.length = n + 1 := ⟨bks.length - 1, by omega⟩
  obtain ⟨g, cap, hvb⟩ : ∃ g cap, vb = .slice (some ⟨g, 0, none⟩) bks.length cap := by
    have h := own.row
    rw [hn1] at h ⊢
    exact owns_form h
  subst hvb
  have HN : Hid _ := hn
  have HG : Hid (∀ j : Nat, k ≤ marksEK k (bks.take j) ∧ marksEK k (bks.take j) ≤ 1073741824) := fun j => ⟨marksEK_ge _ _, Int.le_trans (marksEK_le bks k j) hk2⟩
  have hgl : lo ≤ g := (own.row.lt g rfl).1
  have hlen : bks.length ≤ 268435456 := by have := marksEK_tot bks k; omega
  have HAP : Hid _ := apa
  clear hn hk2 apa hn1 hpos
  go_enter Tryz.func30, Tryz.ntmps30
  go_wp2
  go_loopw [1, 5] (fun q i wr => ∃ j : Nat, j ≤ bks.length ∧ i = .int .i64 j ∧ q = .int .i64 (marksEK k (bks.take j)) ∧ OwnK lo wr (.slice (some ⟨g, 0, none⟩) bks.length cap) (marksK k (bks.take j) ++ bks.drop j) ∧ Only (PkW g bks) w wr) (fun _ i _ => bks.length - (intOf i).toNat)
  case atStart => exact ⟨0, Nat.zero_le _, rfl, rfl, by simpa [marksK] using own, Only.refl _ _⟩
  case round =>
    obtain ⟨j, hj, rfl, rfl, ow, rg⟩ := hrel
    clear own
    by_cases hlt : j < bks.length
    · have hks := HG.out j
      have hks1 := HG.out (j + 1)
      rw [marksEK_take bks k j hlt] at hks1
      have HT : Hid _ := And.intro (marksEK_take bks k j hlt) (marksK_take bks k j hlt)
      have hxl : (marksK k (bks.take j) ++ bks.drop j).length = bks.length := by rw [List.length_append, marksK_length, List.length_take, List.length_drop]; omega
      have hms : (marksK k (bks.take j) ++ bks.drop j).map Pk.m = bks.map Pk.m := by rw [List.map_append, marksK_ms, ← List.map_append, List.take_append_drop]
      have hap := apart_msK hms HAP.out
      have hml : (marksK k (bks.take j)).length = j := by rw [marksK_length, List.length_take]; omega
      have hxj : (marksK k (bks.take j) ++ bks.drop j)[j]? = some bks[j] := by
        rw [List.getElem?_append_right (by omega), hml, Nat.sub_self, List.getElem?_drop, Nat.add_zero, List.getElem?_eq_getElem hlt]
      have hst : ∀ y : Pk, (marksK k (bks.take j) ++ bks.drop j).set j y = (marksK k (bks.take j) ++ [y]) ++ bks.drop (j + 1) := fun y => by
        rw [List.set_append_right _ _ (by omega), hml, Nat.sub_self, List.drop_eq_getElem_cons hlt, List.set_cons_zero, List.append_assoc]
        rfl
      have hrl := HN.out bks[j] (List.getElem_mem hlt)
      have hmb : ∀ g', bks[j].m.ownBlock = some g' → PkW g bks g' := fun g' h => .inr ⟨bks[j], List.getElem_mem hlt, h⟩
      generalize marksEK k (bks.take j) = kk at *
      generalize marksK k (bks.take j) ++ bks.drop j = xs at *
      have HST : Hid _ := hst
      have HXL : Hid (xs.length = bks.length) := hxl
      have hjx : j < xs.length := by omega
      have HMB : Hid _ := hmb
      obtain ⟨x, hx⟩ : ∃ x, bks[j] = x := ⟨_, rfl⟩
      have HX : Hid (xs[j] = x) := by rw [Hid, ← hx]; rw [List.getElem?_eq_getElem hjx] at hxj; exact Option.some.inj hxj
      rw [hx] at hks1 hrl HMB
      have HT2 : Hid (marksEK k (bks.take (j + 1)) = markNK kk x ∧ marksK k (bks.take (j + 1)) = marksK k (bks.take j) ++ [markK kk x]) := by rw [← hx]; exact HT.out
      have HAA : Hid _ := hap
      clear hst hxl hms hap hml hxj hx hmb HT
      unfold markNK at hks1
      have i0 : (0 : Int) ≤ (j : Int) := by omega
      have i1 : (j : Int) < (bks.length : Int) := by omega
      go_wp2_with fail
      refine (markText_any kk _ (by omega)).mono ?_
      rintro e w1 ⟨rfl, b1⟩
      have ow1 := ow.below b1
      have rg1 := rg.below b1
      obtain ⟨⟨t0, t1, t2, t3, t4⟩, f0, f1, f2, f3, f4⟩ := own_fiveK ow1.row j hjx
      rw [HX.out] at t0 t1 t2 t3 t4
      -- the name and the size
      have h1 := own_put pkC_len ow1.row j 0 x ⟨markS kk, x.sz, x.m, x.rs, x.fx, x.ep⟩ (.string (markS kk)) (by rw [List.getElem?_eq_getElem hjx, HX.out]) (by omega) rfl
      have h2 := own_put pkC_len h1 j 1 ⟨markS kk, x.sz, x.m, x.rs, x.fx, x.ep⟩ ⟨markS kk, kk + 1, x.m, x.rs, x.fx, x.ep⟩ (.int .i64 (kk + 1)) (by simp [hjx]) (by omega) rfl
      have u2 : Upto g w1 ((w1.setCell ⟨g, j * 5 + 0, none⟩ (.string (markS kk))).setCell ⟨g, j * 5 + 1, none⟩ (.int .i64 (kk + 1))) := ((Upto.refl _ _).setCell ⟨g, j * 5 + 0, none⟩ (.inl rfl) _).setCell ⟨g, j * 5 + 1, none⟩ (.inl rfl) _
      have mp2 : ∀ b ∈ xs, ((w1.setCell ⟨g, j * 5 + 0, none⟩ (.string (markS kk))).setCell ⟨g, j * 5 + 1, none⟩ (.int .i64 (kk + 1))).ownsRow lo 2 1 b.m b.rs.length (b.rs.flatMap intC) := fun b hb => maps_plain ow1.row u2 (ow1.maps b hb)
      have rg2 : Only (PkW g bks) w ((w1.setCell ⟨g, j * 5 + 0, none⟩ (.string (markS kk))).setCell ⟨g, j * 5 + 1, none⟩ (.int .i64 (kk + 1))) := rg1.trans ⟨u2.os, u2.tape, u2.output, u2.size, fun i hi' hc => u2.block i hi' (fun h => hc (.inl h))⟩
      have z2 := u2.size
      have z1 := rg1.size
      rw [List.set_set] at h2
      simp only [Nat.add_zero] at h2 mp2 rg2 z2 u2
      have HB : Hid _ := And.intro h2 (And.intro mp2 rg2)
      have lg1 : g < w1.heap.size := (ow1.row.lt g rfl).2
      have hlo2 : lo ≤ ((w1.setCell ⟨g, j * 5, none⟩ (.string (markS kk))).setCell ⟨g, j * 5 + 1, none⟩ (.int .i64 (kk + 1))).heap.size := by omega
      have t2' : ((w1.setCell ⟨g, j * 5, none⟩ (.string (markS kk))).setCell ⟨g, j * 5 + 1, none⟩ (.int .i64 (kk + 1))).cell? ⟨g, j * 5 + 2, none⟩ = some x.m := (own_fiveK HB.out.1 j (by simpa using hjx)).1.2.2.1.trans (by simp)
      obtain ⟨om, cm, hxm⟩ : ∃ om cm, x.m = .slice om x.rs.length cm := own_slice (HB.out.2.1 x (by rw [← HX.out]; exact List.getElem_mem hjx))
      have w1a : IntKind.i64.wrap (kk + 1) = kk + 1 := by rw [IntKind.wrap_i64]; omega
      have w1b : IntKind.i64.wrap (kk + 1 + 1) = kk + 1 + 1 := by rw [IntKind.wrap_i64]; omega
      rw [hxm] at t2 t2'
      clear h1 h2 mp2 rg2 u2 ow ow1 b1 rg rg1
      go_wp2_with fail
      clear t0 t1 t2 t3 t4 f0 f1 f2 f3 f4 t2'
      generalize (w1.setCell ⟨g, j * 5, none⟩ (.string (markS kk))).setCell ⟨g, j * 5 + 1, none⟩ (.int .i64 (kk + 1)) = w2 at *
      have omx := HB.out.2.1 x (by rw [← HX.out]; exact List.getElem_mem hjx)
      refine (markedKRow_any _ lo (kk + 1 + 1) x.rs _ (by omega) (by omega) hrl hlo2 (by rw [hxm] at omx; exact omx)).mono ?_
      rintro e w3 ⟨rfl, o3, b3, z3, hh⟩
      rw [← hxm] at o3 hh
      have row3 := row_mapsK HB.out.1 omx hh
      have mp3 : ∀ (i : Nat) (hi' : i < xs.length), i ≠ j → w3.ownsRow lo 2 1 xs[i].m xs[i].rs.length (xs[i].rs.flatMap intC) := fun i hi' hne => own_rng_not (HB.out.2.1 xs[i] (List.getElem_mem hi')) (fun q hq hqv => hh q hq (fun hx => by
        rw [← HX.out] at hx
        exact apart_atK HAA.out i j hi' hjx hne q hqv hx))
      have rg3 : Only (PkW g bks) w w3 := HB.out.2.2.trans ⟨b3.os, b3.tape, b3.output, z3, fun i hi' hc => hh i hi' (fun h => hc (HMB.out i h))⟩
      have hj3 : j < (xs.set j ⟨markS kk, kk + 1, x.m, x.rs, x.fx, x.ep⟩).length := by simpa using hjx
      obtain ⟨⟨t0, t1, t2, t3, t4⟩, f0, f1, f2, f3, f4⟩ := own_fiveK row3 j hj3
      simp only [List.getElem_set_self] at t0 t1 t2 t3 t4
      -- the map is another one now
      have row4 : w3.ownsRow lo 51 5 (.slice (some ⟨g, 0, none⟩) bks.length cap) (xs.set j ⟨markS kk, kk + 1, x.m, marksI (kk + 1 + 1) x.rs.length, x.fx, x.ep⟩).length ((xs.set j ⟨markS kk, kk + 1, x.m, marksI (kk + 1 + 1) x.rs.length, x.fx, x.ep⟩).flatMap pkC) := by
        have e1 : (xs.set j (⟨markS kk, kk + 1, x.m, x.rs, x.fx, x.ep⟩ : Pk)).flatMap pkC = (xs.set j ⟨markS kk, kk + 1, x.m, marksI (kk + 1 + 1) x.rs.length, x.fx, x.ep⟩).flatMap pkC := by
          rw [List.flatMap_def, List.flatMap_def, List.map_set, List.map_set]; rfl
        rw [← e1, List.length_set]
        rw [List.length_set] at row3
        exact row3
      have h5 := own_put pkC_len row4 j 3 ⟨markS kk, kk + 1, x.m, marksI (kk + 1 + 1) x.rs.length, x.fx, x.ep⟩ ⟨markS kk, kk + 1, x.m, marksI (kk + 1 + 1) x.rs.length, (kk + 1 + 1 + x.rs.length) % 3 == 0, x.ep⟩ (.bool ((kk + 1 + 1 + x.rs.length) % 3 == 0)) (by simp [hjx]) (by omega) rfl
      have h6 := own_put pkC_len h5 j 4 ⟨markS kk, kk + 1, x.m, marksI (kk + 1 + 1) x.rs.length, (kk + 1 + 1 + x.rs.length) % 3 == 0, x.ep⟩ (markK kk x) (.int .i64 (kk + 1 + 1 + x.rs.length + 1)) (by simp [hjx]) (by omega) rfl
      rw [List.set_set, List.set_set] at h6
      have u6 : Upto g w3 ((w3.setCell ⟨g, j * 5 + 3, none⟩ (.bool ((kk + 1 + 1 + x.rs.length) % 3 == 0))).setCell ⟨g, j * 5 + 4, none⟩ (.int .i64 (kk + 1 + 1 + x.rs.length + 1))) := ((Upto.refl _ _).setCell ⟨g, j * 5 + 3, none⟩ (.inl rfl) _).setCell ⟨g, j * 5 + 4, none⟩ (.inl rfl) _
      have mp6 : ∀ b ∈ xs.set j (markK kk x), ((w3.setCell ⟨g, j * 5 + 3, none⟩ (.bool ((kk + 1 + 1 + x.rs.length) % 3 == 0))).setCell ⟨g, j * 5 + 4, none⟩ (.int .i64 (kk + 1 + 1 + x.rs.length + 1))).ownsRow lo 2 1 b.m b.rs.length (b.rs.flatMap intC) := fun b hb => by
        obtain ⟨i, hi', rfl⟩ := List.getElem_of_mem hb
        have hi2 : i < xs.length := by simpa using hi'
        by_cases hij : i = j
        · subst hij
          rw [List.getElem_set_self]
          exact maps_plain row4 u6 o3
        · rw [List.getElem_set_ne (fun h => hij h.symm)]
          exact maps_plain row4 u6 (mp3 i hi2 hij)
      have rg6 : Only (PkW g bks) w ((w3.setCell ⟨g, j * 5 + 3, none⟩ (.bool ((kk + 1 + 1 + x.rs.length) % 3 == 0))).setCell ⟨g, j * 5 + 4, none⟩ (.int .i64 (kk + 1 + 1 + x.rs.length + 1))) := rg3.trans ⟨u6.os, u6.tape, u6.output, u6.size, fun i hi' hc => u6.block i hi' (fun h => hc (.inl h))⟩
      rw [HST.out (markK kk x)] at h6 mp6
      rw [← HT2.out.2] at h6 mp6
      have HF : Hid _ := And.intro h6 (And.intro mp6 rg6)
      have w3a : IntKind.i64.wrap (kk + 1 + 1 + (x.rs.length : Int) + 1) = kk + 1 + 1 + (x.rs.length : Int) + 1 := by rw [IntKind.wrap_i64]; omega
      have w3b : IntKind.i64.wrap (kk + 1 + 1 + (x.rs.length : Int) + 1 + 1) = kk + 1 + 1 + (x.rs.length : Int) + 1 + 1 := by rw [IntKind.wrap_i64]; omega
      have HT3 : Hid (marksEK k (bks.take (j + 1)) = kk + 1 + 1 + (x.rs.length : Int) + 1 + 1) := HT2.out.1
      clear h5 h6 mp6 rg6 u6 row4 row3 mp3 rg3 o3 omx b3 hh HB HT2 HST HX HMB HAA hxm z3 z2 z1 t0 t1 t2
      go_wp2_with fail
      go_roundw
      case rel => exact ⟨j + 1, by omega, by go_num, by rw [HT3.out], ⟨HF.out.1, HF.out.2.1⟩, HF.out.2.2⟩
      case measure => simp [intOf]; omega
    · have hjl : j = bks.length := by omega
      have HO : Hid (OwnK lo wr (.slice (some ⟨g, 0, none⟩) bks.length cap) (marksK k bks)) := by
        rw [hjl, List.drop_of_length_le (Nat.le_refl _), List.append_nil, List.take_length] at ow
        exact ow
      have htk : bks.take j = bks := by rw [hjl, List.take_length]
      rw [htk]
      clear ow htk
      have i1 : ¬ (j : Int) < (bks.length : Int) := by omega
      go_wp2_with fail
      go_ret
      exact ⟨rfl, HO.out, rg.os, rg.tape, rg.output, rg.size, fun i hi' h1 h2 => rg.block i hi' (fun hx => by
        rcases hx with rfl | ⟨b, hb, hg'⟩
        · exact h1 rfl
        · exact h2 b hb hg')⟩

set_option maxRecDepth 100000 in
set_option maxHeartbeats 6400000 in
theorem heldPlains_any (vb : Value) (bks : List Pk) (k : Int) (w : World) (hk : 0 ≤ k) (hk2 : marksEK k bks ≤ 1073741824) (hn : ∀ b ∈ bks, b.rs.length ≤ 1048576) (r : ReadsK w.heap.size w vb (marksK k bks)) :
    Calls Tryz.prog 31 #[vb, .int .i64 k] w fun e w' => e = .returned (.int .i64 (marksEK k bks)) ∧ Below w.heap.size w w' := by
  have RM : Hid _ := r.maps
  obtain ⟨o, cap, rfl, hm, hc, -⟩ := r.row
  have HC : Hid _ := five_cellsK hc
  have HN : Hid _ := hn
  have HG : Hid (∀ j : Nat, k ≤ marksEK k (bks.take j) ∧ marksEK k (bks.take j) ≤ 1073741824) := fun j => ⟨marksEK_ge _ _, Int.le_trans (marksEK_le bks k j) hk2⟩
  have hlen : bks.length ≤ 268435456 := by have := marksEK_tot bks k; omega
  rw [marksK_length]
  clear hc r hn hk2 hm
  go_enter Tryz.func31, Tryz.ntmps31
  go_wp2
  go_loopw [1, 5] (fun q i wr => ∃ j : Nat, j ≤ bks.length ∧ i = .int .i64 j ∧ q = .int .i64 (marksEK k (bks.take j)) ∧ Below w.heap.size w wr) (fun _ i _ => bks.length - (intOf i).toNat)
  case atStart => exact ⟨0, Nat.zero_le _, rfl, rfl, Below.refl _ _⟩
  case round =>
    obtain ⟨j, hj, rfl, rfl, hb⟩ := hrel
    by_cases hlt : j < bks.length
    · have hjm : j < (marksK k bks).length := by rw [marksK_length]; exact hlt
      obtain ⟨g, off, rfl, hg, a0, a1, a2, a3, a4⟩ := HC.out j hjm
      have rm := (RM.out (marksK k bks)[j] (List.getElem_mem hjm)).below hb
      have hks := HG.out j
      have hks1 := HG.out (j + 1)
      rw [marksEK_take bks k j hlt] at hks1
      have HT : Hid _ := marksEK_take bks k j hlt
      have hat : (marksK k bks)[j] = markK (marksEK k (bks.take j)) bks[j] := by
        have e : marksK k bks = marksK k (bks.take (j + 1)) ++ marksK (marksEK k (bks.take (j + 1))) (bks.drop (j + 1)) := by rw [← marksK_append, List.take_append_drop]
        have hml : (marksK k (bks.take j)).length = j := by rw [marksK_length, List.length_take]; omega
        have e2 : (marksK k bks)[j]? = some (markK (marksEK k (bks.take j)) bks[j]) := by
          rw [e, marksK_take bks k j hlt, List.append_assoc, List.getElem?_append_right (by omega), hml, Nat.sub_self]
          rfl
        rw [List.getElem?_eq_getElem hjm] at e2
        exact Option.some.inj e2
      rw [hat] at a0 a1 a2 a3 a4 rm
      have hrl := HN.out bks[j] (List.getElem_mem hlt)
      generalize marksEK k (bks.take j) = kk at *
      generalize bks[j] = x at *
      obtain ⟨nm, sz, m, rs, fx, ep⟩ := x
      simp only [markK] at a0 a1 a2 a3 a4 rm
      simp only at hrl
      simp only [markNK] at hks1 HT
      obtain ⟨om, cm, hm'⟩ := rm.form
      rw [marksI_length] at hm'
      subst hm'
      have lg : g < wr.heap.size := Nat.lt_of_lt_of_le hg hb.size
      replace a0 := (hb.cell (p := ⟨g, off + j * 5, none⟩) hg).trans a0
      replace a1 := (hb.cell (p := ⟨g, off + j * 5 + 1, none⟩) hg).trans a1
      replace a2 := (hb.cell (p := ⟨g, off + j * 5 + 2, none⟩) hg).trans a2
      replace a3 := (hb.cell (p := ⟨g, off + j * 5 + 3, none⟩) hg).trans a3
      replace a4 := (hb.cell (p := ⟨g, off + j * 5 + 4, none⟩) hg).trans a4
      have hne := BelowOf.any wr
      have c0 := BelowOf.cell a0 lg
      have i0 : (0 : Int) ≤ (j : Int) := by omega
      have i1 : (j : Int) < (bks.length : Int) := by omega
      have hself : ((markS kk).toList == (markS kk).toList) = true := by simp
      have HMT : ∀ z : BelowOf wr, Calls Tryz.prog 65 #[.int .i64 kk] z.w' fun e w' => e = .returned (.string (markS kk)) ∧ Below z.w'.heap.size z.w' w' := fun z => markText_any kk z.w' (by omega)
      clear hat hjm
      go_wp2_with fail
      refine wp_region_of (by kernel_rfl) (by kernel_rfl) ?_
      repeat (go_big_quiet_step ((first | (go_at_call 65; exact calls_of (HMT _)) | rfl)))
      refine wpQuiet_nil ?_
      intro w5 hw5
      obtain ⟨⟨wx, cx⟩, hwx⟩ := hw5
      have b5 : Below wr.heap.size wr w5 := by rw [hwx]; exact cx
      clear hwx cx wx c0 HMT hne
      replace a1 := (b5.cell (p := ⟨g, off + j * 5 + 1, none⟩) lg).trans a1
      replace a2 := (b5.cell (p := ⟨g, off + j * 5 + 2, none⟩) lg).trans a2
      replace a3 := (b5.cell (p := ⟨g, off + j * 5 + 3, none⟩) lg).trans a3
      replace a4 := (b5.cell (p := ⟨g, off + j * 5 + 4, none⟩) lg).trans a4
      replace rm := ((rm.mono hb.size).below b5).mono b5.size
      replace hb := bw_call hb b5
      replace lg := Nat.lt_of_lt_of_le lg b5.size
      have w1a : IntKind.i64.wrap (kk + 1) = kk + 1 := by rw [IntKind.wrap_i64]; omega
      have w1b : IntKind.i64.wrap (kk + 1 + 1) = kk + 1 + 1 := by rw [IntKind.wrap_i64]; omega
      clear b5 a0
      go_wp2_with fail
      clear a1 a2
      refine (heldK_any _ rs.length (kk + 1 + 1) _ (by omega) (by omega) hrl rm).mono ?_
      rintro e w6 ⟨rfl, b6⟩
      replace a3 := (b6.cell (p := ⟨g, off + j * 5 + 3, none⟩) lg).trans a3
      replace a4 := (b6.cell (p := ⟨g, off + j * 5 + 4, none⟩) lg).trans a4
      replace hb := bw_call hb b6
      have hp : 0 ≤ kk + 1 + 1 + (rs.length : Int) := by omega
      have w3a : IntKind.i64.wrap (kk + 1 + 1 + (rs.length : Int) + 1) = kk + 1 + 1 + (rs.length : Int) + 1 := by rw [IntKind.wrap_i64]; omega
      have w3b : IntKind.i64.wrap (kk + 1 + 1 + (rs.length : Int) + 1 + 1) = kk + 1 + 1 + (rs.length : Int) + 1 + 1 := by rw [IntKind.wrap_i64]; omega
      clear b6 rm
      go_wp2_with fail
      go_roundw
      case rel => exact ⟨j + 1, by omega, by go_num, by rw [HT.out], hb⟩
      case measure => simp [intOf]; omega
    · have hjl : j = bks.length := by omega
      have htk : bks.take j = bks := by rw [hjl, List.take_length]
      rw [htk]
      have i1 : ¬ (j : Int) < (bks.length : Int) := by omega
      clear htk
      go_wp2_with fail
      go_ret
      exact ⟨rfl, hb⟩
end Go.Proofs.YtcefcglonooelaaGreatDoor

