/-
  Contracts and plain laws, one chapter behind the other.
-/
import Derived.Laws.CopyOwn
import Derived.Handy
import Derived.Laws.IdiomStrings
import Derived.Lib.Strings
import Derived.Shelf.LaysM
import Derived.Shelf.Strconv.Clone
import Derived.Test.YtchlkdhnjejgnaaM01
import Derived.Test.YtchlkdhnjejgnaaM02
import Derived.Test.YtchlkdhnjejgnaaM03
import Derived.Test.YtchlkdhnjejgnaaM04
import Derived.Test.YtchlkdhnjejgnaaM08
import Derived.Test.YtchlkdhnjejgnaaM09
import Derived.Test.YtchlkdhnjejgnaaM12
import Derived.Test.YtchlkdhnjejgnaaM16
namespace Go.Proofs.Ytchlkdhnjejgnaa
open Go.RowKit

set_option linter.unusedVariables false

set_option maxRecDepth 100000


/-- A pool that is read: its rows. -/
structure RP (B : Nat) (w : World) (v1 v2 : Value) (cs ps : List Int) : Prop where
  c : Reads B w v1 (cs.map (Value.int .i64))
  p : Reads B w v2 (ps.map (Value.int .i64))

theorem RP.below {B : Nat} {w w' : World} {v1 v2 : Value} {cs ps : List Int} (h : RP B w v1 v2 cs ps) (k : Below B w w') : RP B w' v1 v2 cs ps := ⟨h.c.below k, h.p.below k⟩

theorem RP.mono {B B' : Nat} {w : World} {v1 v2 : Value} {cs ps : List Int} (h : RP B w v1 v2 cs ps) (k : B ≤ B') : RP B' w v1 v2 cs ps := ⟨h.c.mono k, h.p.mono k⟩

theorem RP.of {B : Nat} {W : World} {v1 v2 : Value} {cs ps : List Int} (h : RP B W v1 v2 cs ps) (y : B ≤ W.heap.size) (p : BelowOf W) : RP p.w'.heap.size p.w' v1 v2 cs ps := ((h.mono y).below p.h).mono p.h.size

theorem RP.forms {B : Nat} {w : World} {v1 v2 : Value} {cs ps : List Int} (h : RP B w v1 v2 cs ps) : ∃ o1 k1 o2 k2, v1 = .slice o1 cs.length k1 ∧ v2 = .slice o2 ps.length k2 := by
  obtain ⟨⟨o, k, e, -⟩, ⟨o', k', e', -⟩⟩ := h
  exact ⟨o, k, o', k', by rw [e, List.length_map], by rw [e', List.length_map]⟩

theorem OwnP.reads {base : Nat} {w : World} {v1 v2 : Value} {cs ps : List Int} (h : OwnP base w v1 v2 cs ps) : RP w.heap.size w v1 v2 cs ps := ⟨h.r1, h.r2⟩

theorem OwnP.forms {base : Nat} {w : World} {v1 v2 : Value} {cs ps : List Int} (h : OwnP base w v1 v2 cs ps) : ∃ o1 c1 o2 c2, v1 = .slice o1 cs.length c1 ∧ v2 = .slice o2 ps.length c2 := by
  obtain ⟨o1, c1, h1⟩ := own_slice h.c
  obtain ⟨o2, c2, h2⟩ := own_slice h.p
  exact ⟨o1, c1, o2, c2, h1, h2⟩
end Go.Proofs.Ytchlkdhnjejgnaa

namespace Go.Proofs.Ytchlkdhnjejgnaa
open Go.RowKit

set_option linter.unusedVariables false

set_option maxRecDepth 100000


/-- A shelf that is read. -/
structure RS (B : Nat) (w : World) (v1 v2 vb : Value) (cs ps : List Int) (bks : List Bk) : Prop where
  p : RP B w v1 v2 cs ps
  b : ReadsB B w vb bks

theorem RS.below {B : Nat} {w w' : World} {v1 v2 vb : Value} {cs ps : List Int} {bks : List Bk} (h : RS B w v1 v2 vb cs ps bks) (k : Below B w w') : RS B w' v1 v2 vb cs ps bks := ⟨h.p.below k, h.b.below k⟩

theorem RS.mono {B B' : Nat} {w : World} {v1 v2 vb : Value} {cs ps : List Int} {bks : List Bk} (h : RS B w v1 v2 vb cs ps bks) (k : B ≤ B') : RS B' w v1 v2 vb cs ps bks := ⟨h.p.mono k, h.b.mono k⟩

theorem RS.forms {B : Nat} {w : World} {v1 v2 vb : Value} {cs ps : List Int} {bks : List Bk} (h : RS B w v1 v2 vb cs ps bks) : ∃ o1 k1 o2 k2 ob kb, v1 = .slice o1 cs.length k1 ∧ v2 = .slice o2 ps.length k2 ∧ vb = .slice ob bks.length kb := by
  obtain ⟨o1, k1, o2, k2, e1, e2⟩ := h.p.forms
  obtain ⟨ob, kb, e3, -⟩ := h.b.row
  exact ⟨o1, k1, o2, k2, ob, kb, e1, e2, e3⟩

/-- A shelf of one's own. -/
structure OwnS (base : Nat) (w : World) (v1 v2 vb : Value) (cs ps : List Int) (bks : List Bk) : Prop where
  p : OwnP base w v1 v2 cs ps
  b : OwnB base w vb bks
  a : ApartM bks

theorem OwnS.below {base : Nat} {w w' : World} {v1 v2 vb : Value} {cs ps : List Int} {bks : List Bk} (h : OwnS base w v1 v2 vb cs ps bks) (k : Below w.heap.size w w') : OwnS base w' v1 v2 vb cs ps bks := ⟨h.p.below k, h.b.below k, h.a⟩

theorem OwnS.mono {base base' : Nat} {w : World} {v1 v2 vb : Value} {cs ps : List Int} {bks : List Bk} (h : OwnS base w v1 v2 vb cs ps bks) (k : base' ≤ base) : OwnS base' w v1 v2 vb cs ps bks := ⟨h.p.mono k, h.b.mono k, h.a⟩

theorem OwnS.reads {base : Nat} {w : World} {v1 v2 vb : Value} {cs ps : List Int} {bks : List Bk} (h : OwnS base w v1 v2 vb cs ps bks) : RS w.heap.size w v1 v2 vb cs ps bks := ⟨h.p.reads, h.b.reads⟩

theorem OwnS.upto {base c : Nat} {w w' : World} {v1 v2 vb : Value} {cs ps : List Int} {bks : List Bk} (h : OwnS base w v1 v2 vb cs ps bks) (u : Upto c w w') (hc : c < base) : OwnS base w' v1 v2 vb cs ps bks := ⟨h.p.upto u hc, h.b.upto u hc, h.a⟩

theorem OwnS.forms {base : Nat} {w : World} {v1 v2 vb : Value} {cs ps : List Int} {bks : List Bk} (h : OwnS base w v1 v2 vb cs ps bks) : ∃ o1 k1 o2 k2 ob kb, v1 = .slice o1 cs.length k1 ∧ v2 = .slice o2 ps.length k2 ∧ vb = .slice ob bks.length kb := h.reads.forms

theorem readsB_nil (B : Nat) (w : World) : ReadsB B w (.slice none 0 0) [] := ⟨⟨none, 0, rfl, Nat.zero_le _, fun i x h => by simp at h, Nat.le_refl _⟩, fun b hb => by simp at hb⟩
end Go.Proofs.Ytchlkdhnjejgnaa

namespace Go.Proofs.Ytchlkdhnjejgnaa
open Go.RowKit

set_option linter.unusedVariables false

set_option maxRecDepth 100000

/-- A row of one type stays where rows of another type are written. -/
theorem own_apart {w : World} {base base' : Nat} {e e' : TypeId} {k k' n n' : Nat} {v v' : Value} {xs ys : List Value} (h : w.ownsRow base e k v n xs) (h' : w.ownsRow base' e' k' v' n' ys) (hne : e' ≠ e) (g : Nat) (hg : v'.ownBlock = some g) : v.ownBlock ≠ some g := by
  rcases h'.2 with ⟨rfl, _⟩ | ⟨g', cap', cur, rfl, _, hh, _⟩
  · simp [Value.ownBlock] at hg
  · simp [Value.ownBlock] at hg
    subst hg
    exact own_not_box h hh hne

/-- Only what is of the pool's type is written: the books stay. -/
theorem OwnB.pooled {lo base : Nat} {w w' : World} {v1 v2 vb : Value} {cs ps : List Int} {bks : List Bk} (h : OwnB base w vb bks) (p : OwnP lo w v1 v2 cs ps) (k : ∀ i, i < w.heap.size → v1.ownBlock ≠ some i → v2.ownBlock ≠ some i → w'.heap[i]? = w.heap[i]?) : OwnB base w' vb bks := by
  have st : ∀ (e : TypeId) (kk n : Nat) (v : Value) (xs : List Value), 2 ≠ e → w.ownsRow base e kk v n xs → w'.ownsRow base e kk v n xs := fun e kk n v xs he hr =>
    own_rng_not hr (fun q hq hqv => k q hq (fun hx => own_apart hr p.c he q hx hqv) (fun hx => own_apart hr p.p he q hx hqv))
  exact ⟨st _ _ _ _ _ (by decide) h.row, fun b hb => st _ _ _ _ _ (by decide) (h.maps b hb)⟩
end Go.Proofs.Ytchlkdhnjejgnaa

namespace Go.Proofs.Ytchlkdhnjejgnaa
open Go.RowKit

set_option linter.unusedVariables false

set_option maxRecDepth 100000


theorem pageCountOk_any (n : Int) (w : World) :
    Calls Try.prog 92 #[.int .i64 n] w fun e w' => e = .returned (.bool (decide (1 ≤ n) && decide (n ≤ 24))) ∧ w' = w := by
  by_cases h : (1 : Int) ≤ n
  · go_enter Try.func92, Try.ntmps92
    go_wp2
    go_ret
    exact ⟨ret_bool (by simp [h]), rfl⟩
  · go_enter Try.func92, Try.ntmps92
    go_wp2
    go_ret
    exact ⟨ret_bool (by simp; omega), rfl⟩

theorem valueOk_any (n : Int) (w : World) :
    Calls Try.prog 105 #[.int .i64 n] w fun e w' => e = .returned (.bool (decide (0 ≤ n) && decide (n ≤ 999))) ∧ w' = w := by
  by_cases h : (0 : Int) ≤ n
  · go_enter Try.func105, Try.ntmps105
    go_wp2
    go_ret
    exact ⟨ret_bool (by simp [h]), rfl⟩
  · go_enter Try.func105, Try.ntmps105
    go_wp2
    go_ret
    exact ⟨ret_bool (by simp; omega), rfl⟩

theorem cellOk_any (c p : Int) (w : World) :
    Calls Try.prog 93 #[.int .i64 c, .int .i64 p] w fun e w' => e = .returned (.bool (cellOk c p)) ∧ w' = w := by
  by_cases h1 : c < 0
  · have hv : cellOk c p = false := by simp [cellOk]; omega
    rw [hv]
    go_enter Try.func93, Try.ntmps93
    go_wp2
    go_ret
    exact ⟨rfl, rfl⟩
  by_cases h2 : (400 : Int) < c
  · have hv : cellOk c p = false := by simp [cellOk]; omega
    rw [hv]
    go_enter Try.func93, Try.ntmps93
    go_wp2
    go_ret
    exact ⟨rfl, rfl⟩
  cases hp : (decide (0 ≤ p) && decide (p ≤ 999))
  · have hv : cellOk c p = false := by simp [cellOk, hp]
    rw [hv]
    go_enter Try.func93, Try.ntmps93
    go_wp2_with fail
    refine (valueOk_any _ _).mono ?_
    rintro e w' ⟨rfl, rfl⟩
    rw [hp]
    go_wp2_with fail
    go_ret
    exact ⟨rfl, rfl⟩
  · by_cases h3 : 0 < c
    · have hv : cellOk c p = true := (cellOk_iff c p).2 (by simp at hp; omega)
      rw [hv]
      go_enter Try.func93, Try.ntmps93
      go_wp2_with fail
      refine (valueOk_any _ _).mono ?_
      rintro e w' ⟨rfl, rfl⟩
      rw [hp]
      go_wp2_with fail
      go_ret
      exact ⟨rfl, rfl⟩
    · have hv : cellOk c p = (p == 0) := by
        rw [Bool.eq_iff_iff, cellOk_iff, beq_iff_eq]
        simp at hp; omega
      rw [hv]
      go_enter Try.func93, Try.ntmps93
      go_wp2_with fail
      refine (valueOk_any _ _).mono ?_
      rintro e w' ⟨rfl, rfl⟩
      rw [hp]
      go_wp2_with fail
      go_ret
      have hd : decide (0 < c) = false := by simp; omega
      exact ⟨ret_bool (by simp [hd]), rfl⟩

set_option maxHeartbeats 1600000 in
theorem implPoolOk_any (v1 v2 : Value) (cs ps : List Int) (w : World) (h1 : Reads w.heap.size w v1 (cs.map (Value.int .i64))) (h2 : Reads w.heap.size w v2 (ps.map (Value.int .i64))) :
    Calls Try.prog 67 #[.agg #[v1, v2]] w fun e w' => e = .returned (.bool (poolOk cs ps)) ∧ Below w.heap.size w w' := by
  obtain ⟨o1, cap1, rfl, m1, c1, -⟩ := h1
  obtain ⟨o2, cap2, rfl, m2, c2, -⟩ := h2
  simp only [List.length_map] at m1 m2 ⊢
  have C1 : Hid (∀ j u, (cs.map (Value.int .i64))[j]? = some u → ∃ g off, o1 = some ⟨g, off, none⟩ ∧ g < w.heap.size ∧ w.cell? ⟨g, off + j, none⟩ = some u) := c1
  have C2 : Hid (∀ j u, (ps.map (Value.int .i64))[j]? = some u → ∃ g off, o2 = some ⟨g, off, none⟩ ∧ g < w.heap.size ∧ w.cell? ⟨g, off + j, none⟩ = some u) := c2
  clear c1 c2
  unfold maxLen at m1 m2
  obtain ⟨W0, hW0, k0, d0, z0⟩ := pool_box w (.slice o1 cs.length cap1) (.slice o2 ps.length cap2) 26
  have HW0 : Hid (W0 = _) := hW0
  have p0 := at_cell k0 0
  have p1 := at_cell k0 1
  clear hW0 k0
  by_cases he : ps.length = cs.length
  · have hne : ((cs.length : Int) != (ps.length : Int)) = false := by simp [he]
    have HE : Hid (ps.length = cs.length) := he
    have he1 : ps.length ≤ cs.length := by omega
    have he2 : cs.length ≤ ps.length := by omega
    clear he
    cases hl : (decide ((1 : Int) ≤ (cs.length : Int)) && decide ((cs.length : Int) ≤ 24))
    · have hv : poolOk cs ps = false := poolOk_no cs ps fun q => by simp at hl; omega
      rw [hv]
      go_enter Try.func67, Try.ntmps67
      go_wp2_with fail
      rw [← HW0.out]
      clear HW0
      refine (pageCountOk_any _ _).mono ?_
      rintro e w' ⟨rfl, rfl⟩
      rw [hl]
      go_wp2_with fail
      go_ret
      exact ⟨rfl, d0⟩
    · have hb : 1 ≤ cs.length ∧ cs.length ≤ 24 := by simp at hl; omega
      go_enter Try.func67, Try.ntmps67
      go_wp2_with fail
      rw [← HW0.out]
      clear HW0
      refine (pageCountOk_any _ _).mono ?_
      rintro e w' ⟨rfl, rfl⟩
      rw [hl]
      go_wp2_with fail
      go_loopw [22] (fun i wr => ∃ k : Nat, k ≤ cs.length ∧ i = .int .i64 k ∧ (∀ j, j < k → cellOk (cs.getD j 0) (ps.getD j 0) = true) ∧ wr = w') (fun i _ => cs.length - (intOf i).toNat)
      case atStart => exact ⟨0, Nat.zero_le _, rfl, fun j hj => by omega, rfl⟩
      case round =>
        obtain ⟨k, hk, rfl, hall, rfl⟩ := hrel
        have HA : Hid (∀ j, j < k → cellOk (cs.getD j 0) (ps.getD j 0) = true) := hall
        clear hall
        by_cases hlt : k < cs.length
        · obtain ⟨g1, of1, rfl, q1, cc1⟩ := C1.out k _ (getD_some cs k hlt)
          obtain ⟨g2, of2, rfl, q2, cc2⟩ := C2.out k _ (getD_some ps k (by omega))
          have d1 := (d0.cell (p := ⟨g1, of1 + k, none⟩) q1).trans cc1
          have d2 := (d0.cell (p := ⟨g2, of2 + k, none⟩) q2).trans cc2
          have HN : Hid (cellOk (cs.getD k 0) (ps.getD k 0) = true → ∀ j, j < k + 1 → cellOk (cs.getD j 0) (ps.getD j 0) = true) := fun h j hj => by
            rcases Nat.lt_or_ge j k with q | q
            · exact HA.out j q
            · obtain rfl : j = k := by omega
              exact h
          have HNo : Hid (cellOk (cs.getD k 0) (ps.getD k 0) = false → poolOk cs ps = false) := fun h => poolOk_no cs ps fun q => by rw [q.2.2.2 k hlt] at h; cases h
          clear C1 C2 cc1 cc2 HA
          have hle2 : (k : Int) < (ps.length : Int) := by rw [HE.out]; omega
          generalize cs.getD k 0 = c at *
          generalize ps.getD k 0 = p at *
          go_wp2_with fail
          refine (cellOk_any c p _).mono ?_
          rintro e w1 ⟨rfl, rfl⟩
          cases hc : cellOk c p
          · go_wp2_with fail
            go_ret
            exact ⟨ret_bool (HNo.out hc).symm, d0⟩
          · have HNN : Hid _ := HN.out hc
            go_wp2_with fail
            go_roundw
            case rel => exact ⟨k + 1, by omega, by go_num, HNN.out, by trivial⟩
            case measure => simp [intOf]; omega
        · have hv : poolOk cs ps = true := (poolOk_iff cs ps).2 ⟨hb.1, hb.2, HE.out, fun j hj => HA.out j (by omega)⟩
          go_wp2_with fail
          go_ret
          exact ⟨ret_bool hv.symm, d0⟩
  · have hne : ((cs.length : Int) != (ps.length : Int)) = true := by simp; omega
    have hv : poolOk cs ps = false := poolOk_no cs ps fun q => he q.2.2.1
    rw [hv]
    go_enter Try.func67, Try.ntmps67
    go_wp2_with fail
    rw [← HW0.out]
    clear HW0
    go_wp2_with fail
    go_ret
    exact ⟨rfl, d0⟩

theorem countAt_any (v1 v2 : Value) (cs : List Int) (at_ : Int) (w : World) (h1 : Reads w.heap.size w v1 (cs.map (Value.int .i64))) :
    Calls Try.prog 96 #[.agg #[v1, v2], .int .i64 at_] w fun e w' => e = .returned (.int .i64 (countAt cs at_)) ∧ Below w.heap.size w w' := by
  obtain ⟨o1, cap1, rfl, m1, c1, -⟩ := h1
  simp only [List.length_map] at m1 ⊢
  unfold maxLen at m1
  by_cases h0 : 0 ≤ at_
  · by_cases hlt : at_ < (cs.length : Int)
    · obtain ⟨k, rfl⟩ := Int.eq_ofNat_of_zero_le h0
      have hk : k < cs.length := by omega
      have hv : countAt cs (k : Int) = cs.getD k 0 := countAt_of cs k hk
      rw [hv]
      obtain ⟨g1, of1, rfl, q1, cc1⟩ := c1 k _ (getD_some cs k hk)
      have hne : ¬ g1 = w.heap.size := by omega
      clear c1 hv
      generalize cs.getD k 0 = c at *
      go_enter Try.func96, Try.ntmps96
      go_wp2_with fail
      go_ret
      exact ⟨rfl, bw_alloc (Below.refl _ _)⟩
    · have hv : countAt cs at_ = 0 := by unfold countAt; rw [if_neg (by omega)]
      rw [hv]
      clear c1 hv
      go_enter Try.func96, Try.ntmps96
      go_wp2_with fail
      go_ret
      exact ⟨rfl, bw_alloc (Below.refl _ _)⟩
  · have hv : countAt cs at_ = 0 := by unfold countAt; rw [if_neg (by omega)]
    rw [hv]
    clear c1 hv
    go_enter Try.func96, Try.ntmps96
    go_wp2_with fail
    go_ret
    exact ⟨rfl, bw_alloc (Below.refl _ _)⟩
end Go.Proofs.Ytchlkdhnjejgnaa

namespace Go.Proofs.Ytchlkdhnjejgnaa
open Go.RowKit

set_option linter.unusedVariables false

set_option maxRecDepth 100000

/-- The library's own contract of the copy, at this program's numbers. -/
def cloneRen : Go.Shelf.Ren := ⟨fun | 316 => 98 | n => n, fun | 9 => 9 | 3 => 3 | 4 => 4 | 37 => 22 | 0 => 0 | 127 => 146 | 5 => 5 | n => n, fun | n => n⟩

theorem cloneLays : Go.Proofs.LaysM.n316 Try.prog cloneRen where
  mixed := by kernel_rfl
  f316 := Try.func98.trans (congrArg some (by kernel_rfl))
  t0 := Try.underlying0
  a0 := Try.isAgg0
  z0 := Try.sizeOf0
  v0 := Try.zeroValue0
  i0 := by kernel_rfl
  t3 := Try.underlying3
  a3 := Try.isAgg3
  z3 := Try.sizeOf3
  v3 := Try.zeroValue3
  i3 := by kernel_rfl
  t4 := Try.underlying4
  a4 := Try.isAgg4
  z4 := Try.sizeOf4
  v4 := Try.zeroValue4
  i4 := by kernel_rfl
  t9 := Try.underlying9
  a9 := Try.isAgg9
  z9 := Try.sizeOf9
  v9 := Try.zeroValue9
  i9 := by kernel_rfl
  t37 := Try.underlying22
  a37 := Try.isAgg22
  z37 := Try.sizeOf22
  v37 := Try.zeroValue22
  i37 := by kernel_rfl
  t127 := Try.underlying146
  a127 := Try.isAgg146
  z127 := Try.sizeOf146
  v127 := Try.zeroValue146
  i127 := by kernel_rfl
  t5 := Try.underlying5
  a5 := Try.isAgg5
  z5 := Try.sizeOf5
  v5 := Try.zeroValue5
  i5 := by kernel_rfl

theorem liteClone_any (s : ByteArray) (w : World) (hs : s.size ≤ 1099511627776) :
    Calls Try.prog 98 #[.string s] w fun e w' => e = .returned (.string s) ∧ Below w.heap.size w w' := Any.stringslite_Clone cloneLays s w (by omega)

theorem clone_any (s : ByteArray) (w : World) (hs : s.size ≤ 1099511627776) :
    Calls Try.prog 71 #[.string s] w fun e w' => e = .returned (.string s) ∧ Below w.heap.size w w' := by
  go_enter Try.func71, Try.ntmps71
  go_wp2_with fail
  refine (liteClone_any s _ hs).mono ?_
  rintro e w1 ⟨rfl, b1⟩
  go_wp2_with fail
  go_ret
  exact ⟨rfl, b1⟩
end Go.Proofs.Ytchlkdhnjejgnaa

namespace Go.Proofs.Ytchlkdhnjejgnaa
open Go.RowKit

set_option linter.unusedVariables false

set_option maxRecDepth 100000


def runRight (r : Int × Int × Int) : Bool := decide (0 ≤ r.1) && decide (1 ≤ r.2.1) && decide (r.2.1 ≤ 16 - r.1) && decide (0 ≤ r.2.2) && decide (r.2.1 ≤ 24 - r.2.2)

theorem runRight_iff (f c p : Int) : runRight (f, c, p) = true ↔ 0 ≤ f ∧ 1 ≤ c ∧ c ≤ 16 - f ∧ 0 ≤ p ∧ c ≤ 24 - p := by
  simp only [runRight, Bool.and_eq_true, decide_eq_true_eq]
  omega

theorem runRight_no (f c p : Int) (h : ¬ (0 ≤ f ∧ 1 ≤ c ∧ c ≤ 16 - f ∧ 0 ≤ p ∧ c ≤ 24 - p)) : runRight (f, c, p) = false := by
  rw [Bool.eq_false_iff]
  exact fun q => h ((runRight_iff f c p).1 q)

theorem implRun_right (f c p : Int) (w : World) (hf : f ≤ 9223372036854775807) (hp : p ≤ 9223372036854775807) :
    Calls Try.prog 132 #[.agg #[.int .i64 f, .int .i64 c, .int .i64 p]] w fun e w' => e = .returned (.bool (runRight (f, c, p))) ∧ Below w.heap.size w w' := by
  have HNO : Hid (∀ h : ¬ (0 ≤ f ∧ 1 ≤ c ∧ c ≤ 16 - f ∧ 0 ≤ p ∧ c ≤ 24 - p), runRight (f, c, p) = false) := runRight_no f c p
  by_cases h1 : 0 ≤ f
  · by_cases h2 : 1 ≤ c
    · have e1 : IntKind.i64.wrap (16 - f) = 16 - f := by rw [IntKind.wrap_i64]; omega
      by_cases h3 : c ≤ 16 - f
      · by_cases h4 : 0 ≤ p
        · have e2 : IntKind.i64.wrap (24 - p) = 24 - p := by rw [IntKind.wrap_i64]; omega
          by_cases h5 : c ≤ 24 - p
          · have HV : Hid (runRight (f, c, p) = true) := (runRight_iff f c p).2 ⟨h1, h2, h3, h4, h5⟩
            go_enter Try.func132, Try.ntmps132
            go_wp2
            go_ret
            exact ⟨ret_bool HV.out.symm, bw_alloc (Below.refl _ _)⟩
          · have HV := HNO.out (fun q => h5 q.2.2.2.2)
            have HH : Hid _ := HV
            clear HV
            go_enter Try.func132, Try.ntmps132
            go_wp2
            go_ret
            exact ⟨ret_bool HH.out.symm, bw_alloc (Below.refl _ _)⟩
        · have HH : Hid _ := HNO.out (fun q => h4 q.2.2.2.1)
          go_enter Try.func132, Try.ntmps132
          go_wp2
          go_ret
          exact ⟨ret_bool HH.out.symm, bw_alloc (Below.refl _ _)⟩
      · have HH : Hid _ := HNO.out (fun q => h3 q.2.2.1)
        go_enter Try.func132, Try.ntmps132
        go_wp2
        go_ret
        exact ⟨ret_bool HH.out.symm, bw_alloc (Below.refl _ _)⟩
    · have HH : Hid _ := HNO.out (fun q => h2 q.2.1)
      go_enter Try.func132, Try.ntmps132
      go_wp2
      go_ret
      exact ⟨ret_bool HH.out.symm, bw_alloc (Below.refl _ _)⟩
  · have HH : Hid _ := HNO.out (fun q => h1 q.1)
    go_enter Try.func132, Try.ntmps132
    go_wp2
    go_ret
    exact ⟨ret_bool HH.out.symm, bw_alloc (Below.refl _ _)⟩

theorem implRun_ahead (f c p f' c' p' : Int) (w : World) (h : 0 ≤ f ∧ f ≤ 16 ∧ 0 ≤ c ∧ c ≤ 16) :
    Calls Try.prog 131 #[.agg #[.int .i64 f, .int .i64 c, .int .i64 p], .agg #[.int .i64 f', .int .i64 c', .int .i64 p']] w fun e w' => e = .returned (.bool (decide (f + c ≤ f'))) ∧ Below w.heap.size w w' := by
  have e1 : IntKind.i64.wrap (f + c) = f + c := by rw [IntKind.wrap_i64]; omega
  clear h
  go_enter Try.func131, Try.ntmps131
  go_wp2
  go_ret
  exact ⟨ret_bool rfl, bw_alloc (bw_alloc (Below.refl _ _))⟩

theorem implRun_on (f c p f' c' p' : Int) (w : World) (h : 0 ≤ f ∧ f ≤ 16 ∧ 0 ≤ c ∧ c ≤ 16 ∧ 0 ≤ p ∧ p ≤ 24) :
    Calls Try.prog 130 #[.agg #[.int .i64 f, .int .i64 c, .int .i64 p], .agg #[.int .i64 f', .int .i64 c', .int .i64 p']] w fun e w' => e = .returned (.bool (decide (f + c = f') && decide (p + c = p'))) ∧ Below w.heap.size w w' := by
  have e1 : IntKind.i64.wrap (f + c) = f + c := by rw [IntKind.wrap_i64]; omega
  have e2 : IntKind.i64.wrap (p + c) = p + c := by rw [IntKind.wrap_i64]; omega
  clear h
  by_cases h1 : f + c = f'
  · have h1b : (f + c == f') = true := by simpa using h1
    have HH : Hid ((p + c == p') = (decide (f + c = f') && decide (p + c = p'))) := by rw [Hid, decide_eq_true h1, Bool.true_and]; rfl
    clear h1
    go_enter Try.func130, Try.ntmps130
    go_wp2
    go_ret
    exact ⟨ret_bool HH.out, bw_alloc (bw_alloc (Below.refl _ _))⟩
  · have h1b : (f + c == f') = false := by simpa using h1
    have HH : Hid (false = (decide (f + c = f') && decide (p + c = p'))) := by rw [Hid, decide_eq_false h1, Bool.false_and]
    clear h1
    go_enter Try.func130, Try.ntmps130
    go_wp2
    go_ret
    exact ⟨ret_bool HH.out, bw_alloc (bw_alloc (Below.refl _ _))⟩

theorem placeOk_any (x : Int) (w : World) :
    Calls Try.prog 111 #[.int .i64 x] w fun e w' => e = .returned (.bool (decide (0 ≤ x) && decide (x ≤ 15))) ∧ w' = w := by
  by_cases h1 : 0 ≤ x
  · by_cases h2 : x < 16
    · go_enter Try.func111, Try.ntmps111
      go_wp2
      go_ret
      exact ⟨ret_bool (by rw [decide_eq_true h1, decide_eq_true (show x ≤ 15 by omega)]; rfl), rfl⟩
    · go_enter Try.func111, Try.ntmps111
      go_wp2
      go_ret
      exact ⟨ret_bool (by simp; omega), rfl⟩
  · go_enter Try.func111, Try.ntmps111
    go_wp2
    go_ret
    exact ⟨ret_bool (by simp; omega), rfl⟩
end Go.Proofs.Ytchlkdhnjejgnaa

namespace Go.Proofs.Ytchlkdhnjejgnaa
open Go.RowKit

set_option linter.unusedVariables false

set_option maxRecDepth 100000


theorem at_ahead (f c p : Int) (w : World) : (method 266 102 (.agg #[.int .i64 f, .int .i64 c, .int .i64 p]) "loop.example/g00372/impl.isAheadOf").run Try.prog w = .ok (131, .agg #[.int .i64 f, .int .i64 c, .int .i64 p]) w := by kernel_rfl

theorem at_on (f c p : Int) (w : World) : (method 266 102 (.agg #[.int .i64 f, .int .i64 c, .int .i64 p]) "loop.example/g00372/impl.goesOnIn").run Try.prog w = .ok (130, .agg #[.int .i64 f, .int .i64 c, .int .i64 p]) w := by kernel_rfl

set_option maxHeartbeats 3200000 in
theorem listRight_any (v : Value) (rs : List (Int × Int × Int)) (w : World) (hfit : FitRuns rs) (r : ReadsR 3 runC w.heap.size w v rs) :
    Calls Try.prog 114 #[v] w fun e w' => e = .returned (.bool (okFrom 0 none rs)) ∧ Below w.heap.size w w' := by
  obtain ⟨o, cap, rfl, hm, hc, -⟩ := r
  have HC : Hid _ := three_cells hc
  have HF : Hid _ := hfit
  unfold maxLen at hm
  clear hc hfit
  go_enter Try.func114, Try.ntmps114
  go_wp2_with fail
  go_loopw [7] (fun i wr => ∃ (k : Nat) (e : Int), k ≤ rs.length ∧ i = .int .i64 k ∧ (k = 0 → e = 0) ∧ okFrom 0 none rs = okFrom e (prevOf rs k) (rs.drop k) ∧ (∀ q, prevOf rs k = some q → runRight q = true ∧ e = q.1 + q.2.1) ∧ Below w.heap.size w wr) (fun i _ => rs.length - (intOf i).toNat)
  case atStart => exact ⟨0, 0, Nat.zero_le _, rfl, fun _ => rfl, rfl, fun q hq => by simp [prevOf] at hq, Below.refl _ _⟩
  case round =>
    obtain ⟨k, e, hk, rfl, hk0, hok, hpv, hb⟩ := hrel
    by_cases hlt : k < rs.length
    · obtain ⟨g, off, rfl, hg, a0, a1, a2⟩ := HC.out k hlt
      have hst := okFrom_step rs e k hlt
      rw [← hok] at hst
      have hfk := HF.out rs[k] (List.getElem_mem hlt)
      replace a0 := (hb.cell (p := ⟨g, off + k * 3, none⟩) hg).trans a0
      replace a1 := (hb.cell (p := ⟨g, off + k * 3 + 1, none⟩) hg).trans a1
      replace a2 := (hb.cell (p := ⟨g, off + k * 3 + 2, none⟩) hg).trans a2
      obtain ⟨x, hx⟩ : ∃ x, rs[k] = x := ⟨_, rfl⟩
      rw [hx] at a0 a1 a2 hfk
      obtain ⟨f, c, p⟩ := x
      simp only at a0 a1 a2 hfk
      have HNO : Hid (runOk e (prevOf rs k) (f, c, p) = false → okFrom 0 none rs = false) := fun h => by rw [hst, hx, h]; rfl
      have HYES : Hid (runOk e (prevOf rs k) (f, c, p) = true → okFrom 0 none rs = okFrom (f + c) (prevOf rs (k + 1)) (rs.drop (k + 1))) := fun h => by rw [hst, hx, h, Bool.true_and]
      have HPV1 : Hid (prevOf rs (k + 1) = some (f, c, p)) := by rw [Hid, prevOf, if_neg (by omega), Nat.add_sub_cancel, List.getElem?_eq_getElem hlt, hx]
      have hprev : ∀ k', k = k' + 1 → ∃ q, prevOf rs k = some q ∧ w.cell? ⟨g, off + k' * 3, none⟩ = some (.int .i64 q.1) ∧ w.cell? ⟨g, off + k' * 3 + 1, none⟩ = some (.int .i64 q.2.1) ∧ w.cell? ⟨g, off + k' * 3 + 2, none⟩ = some (.int .i64 q.2.2) := fun k' hk' => by
        obtain ⟨g', off', e', -, b0, b1, b2⟩ := HC.out k' (by omega)
        cases e'
        refine ⟨rs[k'], ?_, b0, b1, b2⟩
        rw [prevOf, if_neg (by omega), show k - 1 = k' by omega, List.getElem?_eq_getElem (by omega)]
      have HPREV : Hid _ := hprev
      have HPVB : Hid _ := hpv
      have HK0 : Hid _ := hk0
      have hbA : Below w.heap.size w (wr.alloc (.cells #[.int .i64 f, .int .i64 c, .int .i64 p] 102)) := bw_alloc hb
      have kB := heap_alloc_new wr (.cells #[.int .i64 f, .int .i64 c, .int .i64 p] 102)
      have sB : wr.heap.size < (wr.alloc (.cells #[.int .i64 f, .int .i64 c, .int .i64 p] 102)).heap.size := by simp
      clear hst hok hprev hpv HC hx hk0
      go_wp2_with fail
      refine (implRun_right f c p _ hfk.1.2 hfk.2.2.2).mono ?_
      generalize wr.alloc (.cells #[.int .i64 f, .int .i64 c, .int .i64 p] 102) = W5 at *
      generalize wr.heap.size = nB at *
      rintro e' w6 ⟨rfl, b6⟩
      replace kB := (b6.block nB sB).trans kB
      replace sB := Nat.lt_of_lt_of_le sB b6.size
      replace hbA := bw_call hbA b6
      clear b6
      cases hr : runRight (f, c, p)
      · have HH := hr
        have HV : Hid _ := HNO.out (runOk_false e _ f c p (fun q => by
          rw [← Bool.not_eq_true, runRight_iff] at HH
          by_cases k0 : k = 0
          · have := HK0.out k0; omega
          · obtain ⟨k', rfl⟩ : ∃ k', k = k' + 1 := ⟨k - 1, by omega⟩
            obtain ⟨q', hq', -⟩ := HPREV.out k' rfl
            obtain ⟨h1, h2⟩ := HPVB.out q' hq'
            obtain ⟨qf, qc, qp⟩ := q'
            rw [runRight_iff] at h1
            simp only at h2
            omega))
        clear HH hr
        go_wp2_with fail
        go_ret
        exact ⟨ret_bool HV.out.symm, hbA⟩
      rw [runRight_iff] at hr
      have HRR : Hid (∀ q, prevOf rs (k + 1) = some q → runRight q = true ∧ f + c = q.1 + q.2.1) := fun q hq => by
        rw [HPV1.out] at hq; cases hq; exact ⟨(runRight_iff f c p).2 hr, rfl⟩
      rcases Nat.eq_zero_or_pos k with hk0 | hkp
      · subst hk0
        have HV : Hid _ := HYES.out ((runOk_iff e _ f c p).2 ⟨by have := HK0.out rfl; omega, by omega, by omega, by omega, by omega, by omega, fun q hq => by simp [prevOf] at hq⟩)
        clear HYES HNO HPVB HPREV HK0
        go_wp2_with fail
        go_quiet (fail)
        go_wp2_with fail
        go_roundw
        case rel => exact ⟨0 + 1, f + c, by omega, by go_num, fun h => by omega, HV.out, HRR.out, ⟨hbA.os, hbA.tape, hbA.output, hbA.size, hbA.block⟩⟩
        case measure => simp [intOf]; omega
      · obtain ⟨k', rfl⟩ : ∃ k', k = k' + 1 := ⟨k - 1, by omega⟩
        obtain ⟨⟨qf, qc, qp⟩, hpq, b0, b1, b2⟩ := HPREV.out k' rfl
        obtain ⟨hq1, hq2⟩ := HPVB.out _ hpq
        rw [runRight_iff] at hq1
        simp only at hq2 b0 b1 b2
        have hgs : g < w6.heap.size := Nat.lt_of_lt_of_le hg hbA.size
        have hne := BelowOf.any w6
        have ma := at_ahead
        have mo := at_on
        have d0 := BelowOf.cell ((hbA.cell (p := ⟨g, off + k' * 3, none⟩) hg).trans b0) hgs
        have d1 := BelowOf.cell ((hbA.cell (p := ⟨g, off + k' * 3 + 1, none⟩) hg).trans b1) hgs
        have d2 := BelowOf.cell ((hbA.cell (p := ⟨g, off + k' * 3 + 2, none⟩) hg).trans b2) hgs
        have f0 := BelowOf.cell (at_cell kB 0) sB
        have f1 := BelowOf.cell (at_cell kB 1) sB
        have f2 := BelowOf.cell (at_cell kB 2) sB
        have hw1 : IntKind.i64.wrap ((k' : Int) + 1 - 1) = k' := by rw [IntKind.wrap_i64]; omega
        have hw2 : (k' : Int) + 1 - 1 = k' := by omega
        have hw3 : IntKind.i64.wrap (k' : Int) = k' := by rw [IntKind.wrap_i64]; omega
        have hi0 : (0 : Int) ≤ (k' : Int) := by omega
        have hi1 : (k' : Int) < (rs.length : Int) := by omega
        have hq0 : (0 : Int) < (k' : Int) + 1 := by omega
        by_cases h1 : qf + qc ≤ f
        · have HA : ∀ q : BelowOf w6, Calls Try.prog 131 #[.agg #[.int .i64 qf, .int .i64 qc, .int .i64 qp], .agg #[.int .i64 f, .int .i64 c, .int .i64 p]] q.w' fun e w' => e = .returned (.bool true) ∧ Below q.w'.heap.size q.w' w' := fun q => by have h := implRun_ahead qf qc qp f c p q.w' (by omega); rwa [decide_eq_true h1] at h
          by_cases h2 : qf + qc = f ∧ qp + qc = p
          · have HO : ∀ q : BelowOf w6, Calls Try.prog 130 #[.agg #[.int .i64 qf, .int .i64 qc, .int .i64 qp], .agg #[.int .i64 f, .int .i64 c, .int .i64 p]] q.w' fun e w' => e = .returned (.bool true) ∧ Below q.w'.heap.size q.w' w' := fun q => by have h := implRun_on qf qc qp f c p q.w' (by omega); rwa [decide_eq_true h2.1, decide_eq_true h2.2] at h
            have HV : Hid _ := HNO.out (runOk_false e _ f c p (fun h => h.2.2.2.2.2.2 _ hpq ⟨by omega, by simp only; omega⟩))
            clear HYES HNO HPVB HPREV HK0 hpq
            go_wp2_with fail
            refine wp_region_of (by kernel_rfl) (by kernel_rfl) ?_
            repeat (go_big_quiet_step ((first | (go_at_call 131; exact calls_of (HA _)) | (go_at_call 130; exact calls_of (HO _)) | rfl)))
            refine wpQuiet_nil ?_
            intro w7 hw7
            obtain ⟨⟨wx, cx⟩, hwx⟩ := hw7
            have b7 : Below w6.heap.size w6 w7 := by rw [hwx]; exact cx
            have hb7 := bw_call hbA b7
            clear hwx cx wx hne d0 d1 d2 f0 f1 f2 HA HO
            go_wp2_with fail
            go_ret
            exact ⟨ret_bool HV.out.symm, hb7⟩
          · have HO : ∀ q : BelowOf w6, Calls Try.prog 130 #[.agg #[.int .i64 qf, .int .i64 qc, .int .i64 qp], .agg #[.int .i64 f, .int .i64 c, .int .i64 p]] q.w' fun e w' => e = .returned (.bool false) ∧ Below q.w'.heap.size q.w' w' := fun q => by
              have h := implRun_on qf qc qp f c p q.w' (by omega)
              rwa [show (decide (qf + qc = f) && decide (qp + qc = p)) = false by simpa using h2] at h
            have HV : Hid _ := HYES.out ((runOk_iff e _ f c p).2 ⟨by omega, by omega, by omega, by omega, by omega, by omega, fun q hq h => by rw [hpq] at hq; cases hq; simp only at h; omega⟩)
            clear HYES HNO HPVB HPREV HK0 hpq
            go_wp2_with fail
            refine wp_region_of (by kernel_rfl) (by kernel_rfl) ?_
            repeat (go_big_quiet_step ((first | (go_at_call 131; exact calls_of (HA _)) | (go_at_call 130; exact calls_of (HO _)) | rfl)))
            refine wpQuiet_nil ?_
            intro w7 hw7
            obtain ⟨⟨wx, cx⟩, hwx⟩ := hw7
            have b7 : Below w6.heap.size w6 w7 := by rw [hwx]; exact cx
            have hb7 := bw_call hbA b7
            clear hwx cx wx hne d0 d1 d2 f0 f1 f2 HA HO
            go_wp2_with fail
            go_roundw
            case rel => exact ⟨k' + 1 + 1, f + c, by omega, by go_num, fun h => by omega, HV.out, HRR.out, hb7⟩
            case measure => simp [intOf]; omega
        · have HA : ∀ q : BelowOf w6, Calls Try.prog 131 #[.agg #[.int .i64 qf, .int .i64 qc, .int .i64 qp], .agg #[.int .i64 f, .int .i64 c, .int .i64 p]] q.w' fun e w' => e = .returned (.bool false) ∧ Below q.w'.heap.size q.w' w' := fun q => by have h := implRun_ahead qf qc qp f c p q.w' (by omega); rwa [decide_eq_false h1] at h
          have HV : Hid _ := HNO.out (runOk_false e _ f c p (fun h => by omega))
          clear HYES HNO HPVB HPREV HK0 hpq
          go_wp2_with fail
          refine wp_region_of (by kernel_rfl) (by kernel_rfl) ?_
          repeat (go_big_quiet_step ((first | (go_at_call 131; exact calls_of (HA _)) | rfl)))
          refine wpQuiet_nil ?_
          intro w7 hw7
          obtain ⟨⟨wx, cx⟩, hwx⟩ := hw7
          have b7 : Below w6.heap.size w6 w7 := by rw [hwx]; exact cx
          have hb7 := bw_call hbA b7
          clear hwx cx wx hne d0 d1 d2 f0 f1 f2 HA
          go_wp2_with fail
          go_ret
          exact ⟨ret_bool HV.out.symm, hb7⟩
    · have hl : rs.drop k = [] := List.drop_of_length_le (by omega)
      have hv : okFrom 0 none rs = true := by rw [hok, hl]; rfl
      have HV : Hid _ := hv
      clear hl hv hok
      go_wp2_with fail
      go_ret
      exact ⟨ret_bool HV.out.symm, hb⟩

theorem implMapOk_any (v : Value) (rs : List (Int × Int × Int)) (w : World) (hfit : FitRuns rs) (r : ReadsR 3 runC w.heap.size w v rs) :
    Calls Try.prog 107 #[v] w fun e w' => e = .returned (.bool (mapOk rs)) ∧ Below w.heap.size w w' := by
  have r0 := r
  obtain ⟨o, cap, rfl, hm, hc, -⟩ := r
  unfold maxLen at hm
  clear hc
  by_cases hl : rs.length ≤ 16
  · have HV : Hid (okFrom 0 none rs = mapOk rs) := by rw [Hid, mapOk, decide_eq_true hl, Bool.and_true]
    have hl2 : (rs.length : Int) ≤ 16 := by omega
    go_enter Try.func107, Try.ntmps107
    go_wp2_with fail
    refine (listRight_any _ rs _ hfit r0).mono ?_
    rintro e w1 ⟨rfl, b1⟩
    go_wp2_with fail
    go_ret
    exact ⟨ret_bool HV.out, b1⟩
  · have HV : Hid (mapOk rs = false) := by rw [Hid, mapOk, decide_eq_false hl, Bool.and_false]
    have hl2 : ¬ (rs.length : Int) ≤ 16 := by omega
    go_enter Try.func107, Try.ntmps107
    go_wp2_with fail
    go_ret
    exact ⟨ret_bool HV.out.symm, Below.refl _ _⟩
end Go.Proofs.Ytchlkdhnjejgnaa

