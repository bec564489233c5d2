/-
  Contracts and plain laws, one chapter behind the other.
-/
import Derived.Deep.RegionHeld3
import Derived.Deep.RegionLaw
import Derived.Laws.StructEq
import Derived.BigQuiet
import Derived.Deep.DeepCutAuto
import Derived.Test.YtpmoefagpglddaaChecked
import Derived.Laws.MakeOwn
import Derived.Deep.Slices
import Derived.Deep.Strs
import Derived.Test.YtpmoefagpglddaaM01
import Derived.Test.YtpmoefagpglddaaM02
namespace Go.Proofs.Ytpmoefagpglddaa
open Go.RowKit

set_option linter.unusedVariables false

set_option maxRecDepth 100000


/-- A pool whose two rows are the call's own and lie apart. -/
structure OwnP (base : Nat) (w : World) (v1 v2 : Value) (cs ps : List Int) : Prop where
  c : w.ownsRow base 2 1 v1 cs.length (cs.map (Value.int .i64))
  p : w.ownsRow base 2 1 v2 ps.length (ps.map (Value.int .i64))
  apart : ∀ g, v1.ownBlock = some g → v2.ownBlock ≠ some g

theorem OwnP.below {base : Nat} {w w' : World} {v1 v2 : Value} {cs ps : List Int} (h : OwnP base w v1 v2 cs ps) (b : Below w.heap.size w w') : OwnP base w' v1 v2 cs ps := ⟨owns_below h.c b, owns_below h.p b, h.apart⟩

theorem OwnP.mono {base base' : Nat} {w : World} {v1 v2 : Value} {cs ps : List Int} (h : OwnP base w v1 v2 cs ps) (b : base' ≤ base) : OwnP base' w v1 v2 cs ps := ⟨owns_mono h.c b, owns_mono h.p b, h.apart⟩

theorem OwnP.r1 {base : Nat} {w : World} {v1 v2 : Value} {cs ps : List Int} (h : OwnP base w v1 v2 cs ps) : Reads w.heap.size w v1 (cs.map (Value.int .i64)) := Reads.of_own h.c

theorem OwnP.r2 {base : Nat} {w : World} {v1 v2 : Value} {cs ps : List Int} (h : OwnP base w v1 v2 cs ps) : Reads w.heap.size w v2 (ps.map (Value.int .i64)) := Reads.of_own h.p

theorem OwnP.nil (base : Nat) (w : World) : OwnP base w (.slice none 0 0) (.slice none 0 0) [] [] := ⟨owns_nil _ _ _ _, owns_nil _ _ _ _, fun g h => by cases h⟩

theorem l1Copy_any (v : Value) (xs : List Int) (w : World) (hn : xs.length ≤ 1048576) (h : Reads w.heap.size w v (xs.map (Value.int .i64))) :
    Calls Try.prog 60 #[v] w fun e w' => ∃ v' : Value, e = .returned v' ∧ w'.ownsRow w.heap.size 2 1 v' xs.length (xs.map (Value.int .i64)) ∧ v' ≠ .slice none 0 0 ∧ Below w.heap.size w w' := by
  obtain ⟨i0, hi, hz0, hz1, hz2⟩ := info_parts Try.infoI64
  obtain ⟨o, cap, rfl, hm, hc, -⟩ := h
  have hl : (xs.map (Value.int .i64)).length = xs.length := by simp
  rw [hl] at hm ⊢
  have own0 : (w.alloc (.cells #[] 2)).ownsRow w.heap.size 2 1 (.slice (some ⟨w.heap.size, 0, none⟩) 0 0) 0 [] := World.ownsRow_lit w #[] 0 (Nat.le_refl _) (Nat.zero_le _) rfl
  have d0 : Below w.heap.size w (w.alloc (.cells #[] 2)) := bw_alloc (Below.refl _ _)
  have HC : Hid (∀ j u, (xs.map (Value.int .i64))[j]? = some u → ∃ g off, o = some ⟨g, off, none⟩ ∧ (w.alloc (.cells #[] 2)).cell? ⟨g, off + j, none⟩ = some u) := fun j u hj => by
    obtain ⟨g, off, e, hg, hx⟩ := hc j u hj
    exact ⟨g, off, e, (d0.cell (p := ⟨g, off + j, none⟩) hg).trans hx⟩
  clear hc hl
  go_enter Try.func60, Try.ntmps60
  go_wp2_with (at_builtin; refine wpList_append_reads rfl _ _ 24 rfl w.heap.size 2 i0 (.int .i64 0) 1 8 Try.underlying24 hi hz0 hz1 hz2 rfl (by decide) _ 0 [] rfl own0 o xs.length cap (xs.map (Value.int .i64)) rfl ?c0 HC.out ?c2 ?c3 ?c4 ?c5 ?_)
  case c0 => simp
  case c2 => intro u hu; simp at hu; obtain ⟨a, _, rfl⟩ := hu; rfl
  case c3 => unfold maxLen; omega
  case c4 => omega
  case c5 => simp
  intro v' w' hown hgrow hnil
  have hown2 : w'.ownsRow w.heap.size 2 1 v' xs.length (xs.map (Value.int .i64)) := by simpa using hown
  have hnn : v' ≠ .slice none 0 0 := hnil
  have hb : Below w.heap.size w w' := d0.grown hgrow (by simp) (fun q hq => (own0.lt q hq).1)
  clear hown hgrow hnil own0 d0 HC
  go_wp2_with fail
  go_ret
  exact ⟨v', rfl, hown2, hnn, hb⟩
end Go.Proofs.Ytpmoefagpglddaa

namespace Go.Proofs.Ytpmoefagpglddaa
open Go.RowKit

set_option linter.unusedVariables false

set_option maxRecDepth 100000


/-- A memo that is read: its rows. -/
structure RM (B : Nat) (w : World) (v1 v2 : Value) (ts : List Int) (rs : List (Int × Int)) : Prop where
  t : Reads B w v1 (ts.map (Value.int .i64))
  r : ReadsR 2 repC B w v2 rs

theorem RM.below {B : Nat} {w w' : World} {v1 v2 : Value} {ts : List Int} {rs : List (Int × Int)} (h : RM B w v1 v2 ts rs) (k : Below B w w') : RM B w' v1 v2 ts rs := ⟨h.t.below k, h.r.below k⟩

theorem RM.mono {B B' : Nat} {w : World} {v1 v2 : Value} {ts : List Int} {rs : List (Int × Int)} (h : RM B w v1 v2 ts rs) (k : B ≤ B') : RM B' w v1 v2 ts rs := ⟨h.t.mono k, h.r.mono k⟩

theorem RM.of {B : Nat} {W : World} {v1 v2 : Value} {ts : List Int} {rs : List (Int × Int)} (h : RM B W v1 v2 ts rs) (y : B ≤ W.heap.size) (p : BelowOf W) : RM p.w'.heap.size p.w' v1 v2 ts rs := ((h.mono y).below p.h).mono p.h.size

theorem RM.forms {B : Nat} {w : World} {v1 v2 : Value} {ts : List Int} {rs : List (Int × Int)} (h : RM B w v1 v2 ts rs) : ∃ o1 k1 o2 k2, v1 = .slice o1 ts.length k1 ∧ v2 = .slice o2 rs.length k2 := by
  obtain ⟨⟨o, k, e, -⟩, ⟨o', k', e', -⟩⟩ := h
  exact ⟨o, k, o', k', by rw [e, List.length_map], e'⟩

/-- A memo whose rows are the call's own (they lie apart: their types differ). -/
structure OwnM (base : Nat) (w : World) (v1 v2 : Value) (ts : List Int) (rs : List (Int × Int)) : Prop where
  t : w.ownsRow base 2 1 v1 ts.length (ts.map (Value.int .i64))
  r : w.ownsRow base 29 2 v2 rs.length (rs.flatMap repC)

theorem OwnM.below {base : Nat} {w w' : World} {v1 v2 : Value} {ts : List Int} {rs : List (Int × Int)} (h : OwnM base w v1 v2 ts rs) (b : Below w.heap.size w w') : OwnM base w' v1 v2 ts rs := ⟨owns_below h.t b, owns_below h.r b⟩

theorem OwnM.mono {base base' : Nat} {w : World} {v1 v2 : Value} {ts : List Int} {rs : List (Int × Int)} (h : OwnM base w v1 v2 ts rs) (b : base' ≤ base) : OwnM base' w v1 v2 ts rs := ⟨owns_mono h.t b, owns_mono h.r b⟩

theorem OwnM.reads {base : Nat} {w : World} {v1 v2 : Value} {ts : List Int} {rs : List (Int × Int)} (h : OwnM base w v1 v2 ts rs) : RM w.heap.size w v1 v2 ts rs := ⟨Reads.of_own h.t, ReadsR.of_own repC_len h.r⟩

theorem OwnM.nil (base : Nat) (w : World) : OwnM base w (.slice none 0 0) (.slice none 0 0) [] [] := ⟨owns_nil _ _ _ _, owns_nil _ _ _ _⟩

theorem OwnM.rng {lo hi base : Nat} {w w' : World} {v1 v2 : Value} {ts : List Int} {rs : List (Int × Int)} (h : OwnM base w v1 v2 ts rs) (k : Rng lo hi w w') (hb : hi ≤ base) : OwnM base w' v1 v2 ts rs := ⟨own_rng h.t k hb, own_rng h.r k hb⟩

theorem OwnM.span {base : Nat} {w : World} {v1 v2 : Value} {ts : List Int} {rs : List (Int × Int)} (h : OwnM base w v1 v2 ts rs) : ∀ g, (v1.ownBlock = some g ∨ v2.ownBlock = some g) → base ≤ g ∧ g < w.heap.size := by
  rintro g (h1 | h1)
  · exact h.t.lt g h1
  · exact h.r.lt g h1

/-- Two rows of one's own, whose elements are of two types, lie in two blocks. -/
theorem rows_two {w : World} {b1 b2 k1 k2 n1 n2 : Nat} {e1 e2 : TypeId} {v1 v2 : Value} {x1 x2 : List Value} (h1 : w.ownsRow b1 e1 k1 v1 n1 x1) (h2 : w.ownsRow b2 e2 k2 v2 n2 x2) (he : e1 ≠ e2) : ∀ g, v1.ownBlock = some g → v2.ownBlock ≠ some g := by
  intro g hg
  rcases h1.2 with ⟨rfl, _⟩ | ⟨g1, cap1, cur1, rfl, _, hh, _⟩
  · cases hg
  · simp [Value.ownBlock] at hg
    subst hg
    intro h
    rcases h2.2 with ⟨rfl, _⟩ | ⟨g2, cap2, cur2, rfl, _, hh2, _⟩
    · cases h
    · simp [Value.ownBlock] at h
      subst h
      rw [hh] at hh2
      simp at hh2
      exact he hh2.2

theorem OwnM.apart {base : Nat} {w : World} {v1 v2 : Value} {ts : List Int} {rs : List (Int × Int)} (h : OwnM base w v1 v2 ts rs) : ∀ g, v1.ownBlock = some g → v2.ownBlock ≠ some g := rows_two h.t h.r (by decide)

theorem rep_equal (c v c1 v1 : Int) (w : World) : (Op.equalIn 10000 29 (.agg #[.int .i64 c, .int .i64 v]) (.agg #[.int .i64 c1, .int .i64 v1])).run Try.prog w = .ok (decide ((c, v) = (c1, v1))) w := by
  go_simp
  by_cases h1 : c = c1 <;> by_cases h2 : v = v1 <;> simp [h1, h2]

theorem two_at {B : Nat} {w : World} {o : Option Addr} {rs : List (Int × Int)} (hc : ∀ i x, rs[i]? = some x → ∃ g off, o = some ⟨g, off, none⟩ ∧ g < B ∧ ∀ j u, (repC x)[j]? = some u → w.cell? ⟨g, off + i * 2 + j, none⟩ = some u) (i : Nat) (hi : i < rs.length) :
    ∃ g off, o = some ⟨g, off, none⟩ ∧ g < B ∧ w.cell? ⟨g, off + i * 2, none⟩ = some (.int .i64 (rs.getD i (0, 0)).1) ∧ w.cell? ⟨g, off + i * 2 + 1, none⟩ = some (.int .i64 (rs.getD i (0, 0)).2) := by
  rw [List.getD_eq_getElem?_getD, List.getElem?_eq_getElem hi]
  exact two_cells hc i hi

set_option maxHeartbeats 3200000 in
theorem specMemoOk_any (v1 v2 : Value) (ts : List Int) (rs : List (Int × Int)) (w : World) (r : RM w.heap.size w v1 v2 ts rs) :
    Calls Try.prog 18 #[.agg #[v1, v2]] w fun e w' => e = .returned (.bool (memOk ts rs)) ∧ Below w.heap.size w w' := by
  obtain ⟨⟨o1, cap1, rfl, m1, c1, -⟩, ⟨o2, cap2, rfl, m2, c2, -⟩⟩ := r
  simp only [List.length_map] at m1 ⊢
  unfold maxLen at m1 m2
  obtain ⟨W0, hW0, k0, d0, z0⟩ := box1 w #[.slice o1 ts.length cap1, .slice o2 rs.length cap2] 27
  have HW0 : Hid (W0 = _) := hW0
  have p0 := at_cell k0 0
  have p1 := at_cell k0 1
  have s0 := heap_lt k0
  by_cases h1 : ts.length = 4
  · by_cases h2 : rs.length = 4
    · have HV : Hid (memOk ts rs = memN ts rs 4) := by rw [Hid, memOk, h1, h2]; rfl
      have C1 : Hid (∀ j u, (ts.map (Value.int .i64))[j]? = some u → ∃ g off, o1 = some ⟨g, off, none⟩ ∧ g < w.heap.size ∧ w.cell? ⟨g, off + j, none⟩ = some u) := c1
      have C2 : Hid _ := two_at c2
      have H1 : Hid (ts.length = 4) := h1
      have H2 : Hid (rs.length = 4) := h2
      rw [h1, h2] at p0 p1 k0 HW0
      clear c1 c2 m1 m2 hW0 z0
      rw [h1, h2]
      clear h1 h2
      go_enter Try.func18, Try.ntmps18
      go_upto_region 4 with fail
      rw [← HW0.out]
      clear HW0 p0 p1
      go_loopw [3] (fun i wr => ∃ k : Nat, k ≤ 4 ∧ i = .int .i64 k ∧ memN ts rs k = true ∧ Below W0.heap.size W0 wr) (fun i _ => 4 - (intOf i).toNat)
      case atStart => exact ⟨0, Nat.zero_le _, rfl, rfl, Below.refl _ _⟩
      case round =>
        obtain ⟨k, hk, rfl, hall, hb⟩ := hrel
        have HA : Hid (memN ts rs k = true) := hall
        have kr := (hb.block _ s0).trans k0
        have p0 := at_cell kr 0
        have p1 := at_cell kr 1
        have hbw := bw_call d0 hb
        clear hall
        by_cases hlt : k < 4
        · obtain ⟨g1, of1, rfl, q1, cc⟩ := C1.out k _ (getD_some ts k (by have := H1.out; omega))
          obtain ⟨g2, of2, rfl, q2, a0, a1⟩ := C2.out k (by have := H2.out; omega)
          replace cc := (hbw.cell (p := ⟨g1, of1 + k, none⟩) q1).trans cc
          replace a0 := (hbw.cell (p := ⟨g2, of2 + k * 2, none⟩) q2).trans a0
          replace a1 := (hbw.cell (p := ⟨g2, of2 + k * 2 + 1, none⟩) q2).trans a1
          have HY : Hid (memAt (ts.getD k 0) (rs.getD k (0, 0)) = true → memN ts rs (k + 1) = true) := fun h => by rw [memN, allB_succ, Bool.and_eq_true]; exact ⟨HA.out, h⟩
          have HN : Hid (memAt (ts.getD k 0) (rs.getD k (0, 0)) = false → memOk ts rs = false) := fun h => by rw [HV.out]; exact allB_false _ 4 k hlt h
          generalize ts.getD k 0 = t at cc HY HN
          generalize rs.getD k (0, 0) = rr at a0 a1 HY HN
          obtain ⟨c, v⟩ := rr
          simp only at a0 a1
          have HM : Hid (memAt t (c, v) = (inB t 0 1000 && repOk c v && (!decide (t = 0) || decide ((c, v) = (0, 0))))) := rfl
          have i0 : (0 : Int) ≤ (k : Int) := by omega
          have i1 : (k : Int) < 4 := by omega
          have hg := Try.eqGuardType29
          clear C1 C2 HA
          go_wp2_with fail
          refine (l1In_any t 0 1000 _).mono ?_
          rintro e w5 ⟨rfl, rfl⟩
          have HI : Hid (inB t 0 1000 = (decide (0 ≤ t) && decide (t ≤ 1000))) := rfl
          rw [← HI.out]
          generalize inB t 0 1000 = bT at HM ⊢
          clear HI
          cases bT
          · go_wp2_with fail
            go_ret
            exact ⟨ret_bool (HN.out (by rw [HM.out]; rfl)).symm, hbw⟩
          go_wp2_with fail
          refine (specReplyOk_any c v _).mono ?_
          rintro e w6 ⟨rfl, b6⟩
          have kr6 := (b6.block _ (heap_lt kr)).trans kr
          have e0 := at_cell kr6 0
          have e1 := at_cell kr6 1
          have hbw6 := bw_call hbw b6
          have hb6 := bw_call hb b6
          have l1 : g1 < w5.heap.size := Nat.lt_of_lt_of_le q1 hbw.size
          have l2 : g2 < w5.heap.size := Nat.lt_of_lt_of_le q2 hbw.size
          have cc6 := (b6.cell (p := ⟨g1, of1 + k, none⟩) l1).trans cc
          have a06 := (b6.cell (p := ⟨g2, of2 + k * 2, none⟩) l2).trans a0
          have a16 := (b6.cell (p := ⟨g2, of2 + k * 2 + 1, none⟩) l2).trans a1
          clear cc a0 a1 b6 hb hbw kr p0 p1 kr6
          generalize repOk c v = bR at HM ⊢
          cases bR
          · go_wp2_with fail
            go_ret
            exact ⟨ret_bool (HN.out (by rw [HM.out]; rfl)).symm, hbw6⟩
          by_cases ht : t = 0
          · obtain ⟨bb, hbb⟩ : ∃ b, decide ((c, v) = ((0 : Int), (0 : Int))) = b := ⟨_, rfl⟩
            have HEQ : ∀ W : World, (Op.equalIn 10000 29 (.agg #[.int .i64 c, .int .i64 v]) (.agg #[.int .i64 0, .int .i64 0])).run Try.prog W = .ok bb W := fun W => by rw [← hbb]; exact rep_equal _ _ _ _ W
            have HBB : Hid (decide ((c, v) = ((0 : Int), (0 : Int))) = bb) := hbb
            have HM2 : Hid (memAt t (c, v) = bb) := by rw [Hid, HM.out, HBB.out, decide_eq_true ht]; rfl
            clear hbb HM
            subst ht
            cases bb
            · have HF : Hid _ := HN.out HM2.out
              go_wp2_with fail
              go_ret
              exact ⟨ret_bool HF.out.symm, hbw6⟩
            · have HF : Hid _ := HY.out HM2.out
              go_wp2_with fail
              go_roundw
              case rel => exact ⟨k + 1, by omega, by go_num, HF.out, hb6⟩
              case measure => simp [intOf]; omega
          · have HF : Hid _ := HY.out (by rw [HM.out, decide_eq_false ht]; rfl)
            have htb : (t == 0) = false := by rw [beq_eq_false_iff_ne]; exact ht
            go_wp2_with fail
            go_roundw
            case rel => exact ⟨k + 1, by omega, by go_num, HF.out, hb6⟩
            case measure => simp [intOf]; omega
        · obtain rfl : k = 4 := by omega
          go_wp2_with fail
          go_ret
          exact ⟨ret_bool (by rw [HV.out, HA.out]), hbw⟩
    · have HV : Hid (memOk ts rs = false) := memOk_no fun h => h2 h.2
      have hn2 : ((rs.length : Int) != 4) = true := by rw [bne_iff_ne]; omega
      have hn1 : ((ts.length : Int) != 4) = false := by rw [h1]; rfl
      clear c1 c2 hW0 z0 k0 h1 h2
      go_enter Try.func18, Try.ntmps18
      go_wp2_with fail
      rw [← HW0.out]
      go_ret
      exact ⟨ret_bool HV.out.symm, d0⟩
  · have HV : Hid (memOk ts rs = false) := memOk_no fun h => h1 h.1
    have hn1 : ((ts.length : Int) != 4) = true := by rw [bne_iff_ne]; omega
    clear c1 c2 hW0 z0 k0 h1
    go_enter Try.func18, Try.ntmps18
    go_wp2_with fail
    rw [← HW0.out]
    go_ret
    exact ⟨ret_bool HV.out.symm, d0⟩

theorem specKnownIn_any (v1 v2 : Value) (ts : List Int) (rs : List (Int × Int)) (C : Nat) (tag : Int) (w : World) (hC : C < 4) (h1 : ts.length = 4) (r : RM w.heap.size w v1 v2 ts rs) :
    Calls Try.prog 40 #[.agg #[v1, v2], .int .i64 C, .int .i64 tag] w fun e w' => e = .returned (.int .i64 (knownIn ts C tag)) ∧ Below w.heap.size w w' := by
  obtain ⟨⟨o1, cap1, rfl, m1, c1, -⟩, r2⟩ := r
  obtain ⟨g1, of1, rfl, q1, cc⟩ := c1 C _ (getD_some ts C (by omega))
  simp only [List.length_map] at m1 ⊢
  obtain ⟨W0, hW0, k0, d0, z0⟩ := box1 w #[.slice (some ⟨g1, of1, none⟩) ts.length cap1, v2] 27
  have HW0 : Hid (W0 = _) := hW0
  have p0 := at_cell k0 0
  have dd := (d0.cell (p := ⟨g1, of1 + C, none⟩) q1).trans cc
  have HV : Hid (knownIn ts C tag = if ts.getD C 0 < tag then 0 else if tag = ts.getD C 0 then 1 else 2) := rfl
  rw [h1] at p0 HW0 ⊢
  generalize ts.getD C 0 = x at dd HV
  have i0 : (0 : Int) ≤ (C : Int) := by omega
  have i1 : (C : Int) < 4 := by omega
  clear hW0 k0 c1 r2 z0 cc m1
  by_cases hx : x < tag
  · rw [if_pos hx] at HV
    go_enter Try.func40, Try.ntmps40
    go_upto_region 1 with fail
    rw [← HW0.out]
    clear HW0
    go_wp2_with fail
    go_ret
    exact ⟨ret_int HV.out.symm, d0⟩
  · rw [if_neg hx] at HV
    by_cases he : tag = x
    · rw [if_pos he] at HV
      have HT : Hid (tag = x) := he
      subst he
      go_enter Try.func40, Try.ntmps40
      go_upto_region 1 with fail
      rw [← HW0.out]
      clear HW0
      go_wp2_with fail
      go_ret
      exact ⟨ret_int HV.out.symm, d0⟩
    · rw [if_neg he] at HV
      have hb : (tag == x) = false := by rw [beq_eq_false_iff_ne]; exact he
      go_enter Try.func40, Try.ntmps40
      go_upto_region 1 with fail
      rw [← HW0.out]
      clear HW0
      go_wp2_with fail
      go_ret
      exact ⟨ret_int HV.out.symm, d0⟩
end Go.Proofs.Ytpmoefagpglddaa

namespace Go.Proofs.Ytpmoefagpglddaa
open Go.ChangeShapes Go.WideShapes Go.ChangeAt Go.RowKit Go.Deep Go.Joins

set_option linter.unusedVariables false

set_option maxRecDepth 100000


/-- A row of replies, read out of whatever it lies in. -/
theorem row_reps {H : Type} {enc : TypeId × Value → H} {W : World} {n : Nat} {v : Value} {y : DataW H × List MemPlace} (h : DataW.trod enc Try.prog W 0 (fun _ => true) true n 40 [v] = some y) :
    ∃ xs : List (Int × Int), ReadsR 2 repC W.heap.size W v xs := by
  rcases open_slice Try.underlying40 h with ⟨hcs, _⟩ | ⟨a, len, cap, m, k, D, Pl, hcs, _, hl, hm, hmm, _, hx⟩
  · simp at hcs
    subst hcs
    exact ⟨[], ReadsR.nil _ _ _ _⟩
  · simp at hcs
    subst hcs
    have hlm : len ≤ m := by rw [hmm]; split <;> omega
    have ce : Try.prog.cellsOf 49 = 2 := by kernel_rfl
    have c1 : Try.prog.cellsOf 2 = 1 := by kernel_rfl
    have each : ∀ i, i < len → ∃ r : Int × Int, (∀ j u, (repC r)[j]? = some u → W.cell? (a.add (i * 2 + j)) = some u) := by
      intro i hi
      obtain ⟨cs', h1, h2⟩ := hx i (by omega)
      rw [ce] at h1
      obtain ⟨_, hlen, hcell⟩ := World.cells?_some h1
      obtain ⟨xs, m', _, -, hl2, hlen2, hf⟩ := DataW.trod_struct Try.underlying49 h2
      match cs', hlen with
      | [v0, v1], _ =>
        obtain ⟨y0, y1, rfl⟩ := list2r (show xs.length = 2 from hlen2)
        have t0 := hf 0 _ rfl
        have t1 := hf 1 _ rfl
        simp [c1] at t0 t1
        obtain ⟨f, e0, _, z0⟩ := DataW.trod_int Try.underlying2 t0
        obtain ⟨c, e1, _, z1⟩ := DataW.trod_int Try.underlying2 t1
        simp at e0 e1
        subst e0 e1
        refine ⟨(f, c), fun j u hj => ?_⟩
        have hj3 : j < 2 := by have := (List.getElem?_eq_some_iff.1 hj).1; rwa [repC_len] at this
        have q := hcell j hj3
        rw [add_add] at q
        rw [q]
        exact hj
    obtain ⟨r, hr⟩ := choose_lt each
    refine ⟨(List.range len).map r, ⟨some a, cap, by simp, by simp; omega, fun i x hi => ?_, by simp; omega⟩⟩
    have hil : i < len := by have := (List.getElem?_eq_some_iff.1 hi).1; simpa using this
    have ex : r i = x := by
      rw [List.getElem?_map, List.getElem?_range hil] at hi
      simpa using hi
    have h0 := hr i hil
    rw [ex] at h0
    obtain ⟨b, off, spot⟩ := a
    have hspot : spot = none := by simpa [Addr.add] using World.cell?_spot (hr 0 (by omega) 0 _ rfl)
    subst hspot
    have e : ∀ z, (⟨b, off, none⟩ : Addr).add z = ⟨b, off + z, none⟩ := fun z => by unfold Addr.add; split <;> simp_all
    have hb : b < W.heap.size := by
      have q := h0 0 _ rfl
      rw [e] at q
      rcases Nat.lt_or_ge b W.heap.size with g | g
      · exact g
      · simp [World.cell?, Array.getElem?_eq_none g] at q
    refine ⟨b, off, rfl, hb, fun j u hj => ?_⟩
    have q := h0 j u hj
    rw [e] at q
    rw [Nat.add_assoc]
    exact q

theorem open_memo {H : Type} {enc : TypeId × Value → H} {W : World} {base : Nat} {v : Value} {d : DataW H} {p : List MemPlace} (hv : Value.okWide Try.prog W .any base 42 v) (h : DataW.Trod enc Try.prog W 0 (fun _ => true) true 42 v d p) :
    ∃ (v1 v2 : Value) (ts : List Int) (rs : List (Int × Int)), v = .agg #[v1, v2] ∧ RM W.heap.size W v1 v2 ts rs := by
  obtain ⟨c0, c1, y0, y1, n, rfl, _, _, t0, t1⟩ := open_agg2 Try.underlying42 (by kernel_rfl) (by kernel_rfl) hv h
  obtain ⟨ts, r1, _⟩ := row_i64 t0
  obtain ⟨rs, r2⟩ := row_reps t1
  exact ⟨c0, c1, ts, rs, rfl, r1, r2⟩
end Go.Proofs.Ytpmoefagpglddaa

namespace Go.Proofs.Ytpmoefagpglddaa
open Go.RowKit

set_option linter.unusedVariables false

set_option maxRecDepth 100000


theorem specKnown_any (v1 v2 : Value) (ts : List Int) (rs : List (Int × Int)) (client tag : Int) (w : World) (r : RM w.heap.size w v1 v2 ts rs) :
    Calls Try.prog 16 #[.agg #[v1, v2], .int .i64 client, .int .i64 tag] w fun e w' => e = .returned (.int .i64 (knownM ts rs client tag)) ∧ Below w.heap.size w w' := by
  obtain ⟨o1, cap1, o2, cap2, rfl, rfl⟩ := r.forms
  obtain ⟨W0, hW0, k0, d0, z0⟩ := box1 w #[.slice o1 ts.length cap1, .slice o2 rs.length cap2] 27
  have HW0 : Hid (W0 = _) := hW0
  have r0 := (r.below d0).mono d0.size
  have s0 := heap_lt k0
  have HV : Hid (knownM ts rs client tag = if memOk ts rs = true then knownT ts client tag else -1) := rfl
  have HT : Hid (knownT ts client tag = if inB client 0 3 = true ∧ inB tag 1 1000 = true then knownIn ts client tag else -1) := rfl
  have HL : Hid (memOk ts rs = true → ts.length = 4) := fun h => (memOk_len h).1
  clear hW0 z0 r
  go_enter Try.func16, Try.ntmps16
  go_wp2_with fail
  rw [← HW0.out]
  clear HW0
  refine (specMemoOk_any _ _ ts rs _ r0).mono ?_
  rintro e w1 ⟨rfl, b1⟩
  replace k0 := (b1.block _ s0).trans k0
  replace d0 := bw_call d0 b1
  replace r0 := (r0.below b1).mono b1.size
  clear b1 s0
  generalize memOk ts rs = ok at *
  cases ok
  · go_wp2_with fail
    go_ret
    exact ⟨ret_int (by rw [HV.out]; rfl), d0⟩
  rw [if_pos rfl] at HV
  go_wp2_with fail
  refine (l1In_any client 0 3 _).mono ?_
  rintro e w2 ⟨rfl, rfl⟩
  have HI : Hid (inB client 0 3 = (decide (0 ≤ client) && decide (client ≤ 3))) := rfl
  rw [← HI.out]
  have HCB : Hid (inB client 0 3 = true → 0 ≤ client ∧ client ≤ 3) := fun h => (inB_iff _ _ _).1 h
  generalize inB client 0 3 = b0 at HT HCB ⊢
  clear HI
  cases b0
  · go_wp2_with fail
    go_ret
    exact ⟨ret_int (by rw [HV.out, HT.out]; rfl), d0⟩
  go_wp2_with fail
  refine (l1In_any tag 1 1000 _).mono ?_
  rintro e w2 ⟨rfl, rfl⟩
  have HI : Hid (inB tag 1 1000 = (decide (1 ≤ tag) && decide (tag ≤ 1000))) := rfl
  rw [← HI.out]
  generalize inB tag 1 1000 = b0 at HT ⊢
  clear HI
  cases b0
  · go_wp2_with fail
    go_ret
    exact ⟨ret_int (by rw [HV.out, HT.out]; rfl), d0⟩
  rw [if_pos (by simp)] at HT
  obtain ⟨hc0, hc3⟩ := HCB.out (by simp)
  obtain ⟨C, rfl⟩ := Int.eq_ofNat_of_zero_le hc0
  have hC : C < 4 := by omega
  have p0 := at_cell k0 0
  have p1 := at_cell k0 1
  clear HCB hc0 hc3
  go_wp2_with fail
  refine (specKnownIn_any _ _ ts rs C tag _ hC (HL.out (by simp)) r0).mono ?_
  rintro e w3 ⟨rfl, b3⟩
  replace d0 := bw_call d0 b3
  have hbd := knownIn_bd ts C tag
  generalize knownIn ts C tag = kk at *
  clear b3 r0 k0 p0 p1
  go_wp2_with fail
  go_ret
  exact ⟨ret_int (by rw [HV.out, HT.out]), d0⟩

theorem new_endM {w W0 : World} {M1 M2 : Array Value} {x y : Value} (k0 : W0.heap[w.heap.size]? = some (.cells #[x, y] 27 (0, 0))) (d0 : Below w.heap.size w W0) (z0 : W0.heap.size = w.heap.size + 1)
    (hown1 : ∀ (W : World) (base : Nat), base ≤ W.heap.size → (W.alloc (.cells M1 2)).ownsRow base 2 1 (.slice (some ⟨W.heap.size, 0, none⟩) 4 4) 4 ([0, 0, 0, 0].map (Value.int .i64)))
    (hown2 : ∀ (W : World) (base : Nat), base ≤ W.heap.size → (W.alloc (.cells M2 29)).ownsRow base 29 2 (.slice (some ⟨W.heap.size, 0, none⟩) 4 4) 4 (([(0, 0), (0, 0), (0, 0), (0, 0)] : List (Int × Int)).flatMap repC))
    (a b : Nat) (oa ob : Obj) (hab : (a = w.heap.size + 1 ∧ b = w.heap.size + 1 + 1 ∧ oa = .cells M1 2 ∧ ob = .cells M2 29) ∨ (a = w.heap.size + 1 + 1 ∧ b = w.heap.size + 1 ∧ oa = .cells M2 29 ∧ ob = .cells M1 2)) :
    (((((W0.setCell ⟨w.heap.size, 0, none⟩ (.slice (some ⟨a, 0, none⟩) 4 4)).setCell ⟨w.heap.size, 1, none⟩ (.slice (some ⟨b, 0, none⟩) 4 4)).alloc oa).alloc ob).drew).heap[w.heap.size]? = some (.cells #[.slice (some ⟨a, 0, none⟩) 4 4, .slice (some ⟨b, 0, none⟩) 4 4] 27 (0, 0)) ∧
    OwnM w.heap.size (((((W0.setCell ⟨w.heap.size, 0, none⟩ (.slice (some ⟨a, 0, none⟩) 4 4)).setCell ⟨w.heap.size, 1, none⟩ (.slice (some ⟨b, 0, none⟩) 4 4)).alloc oa).alloc ob).drew) (.slice (some ⟨a, 0, none⟩) 4 4) (.slice (some ⟨b, 0, none⟩) 4 4) [0, 0, 0, 0] [(0, 0), (0, 0), (0, 0), (0, 0)] ∧
    Below w.heap.size w (((((W0.setCell ⟨w.heap.size, 0, none⟩ (.slice (some ⟨a, 0, none⟩) 4 4)).setCell ⟨w.heap.size, 1, none⟩ (.slice (some ⟨b, 0, none⟩) 4 4)).alloc oa).alloc ob).drew) := by
  obtain ⟨h1, h2⟩ := set_two k0 (.slice (some ⟨a, 0, none⟩) 4 4) (.slice (some ⟨b, 0, none⟩) 4 4)
  generalize hW : (W0.setCell ⟨w.heap.size, 0, none⟩ (.slice (some ⟨a, 0, none⟩) 4 4)).setCell ⟨w.heap.size, 1, none⟩ (.slice (some ⟨b, 0, none⟩) 4 4) = W1 at h1 h2 ⊢
  have s1 : W1.heap.size = w.heap.size + 1 := by rw [← hW, World.size_setCell, World.size_setCell, z0]
  clear hW
  have s2 : (W1.alloc oa).heap.size = w.heap.size + 1 + 1 := by simp [s1]
  have e1 := (Below.heap_alloc (W1.alloc oa) ob w.heap.size (by omega)).trans ((Below.heap_alloc W1 oa w.heap.size (by omega)).trans h1)
  refine ⟨e1, ?_, bw_drew (bw_alloc (bw_alloc (d0.trans (h2.toBelow (by omega) (Nat.le_refl _)))))⟩
  rcases hab with ⟨rfl, rfl, rfl, rfl⟩ | ⟨rfl, rfl, rfl, rfl⟩
  · have o1 := hown1 W1 w.heap.size (by omega)
    have o2 := hown2 (W1.alloc (.cells M1 2)) w.heap.size (by omega)
    rw [s1] at o1
    rw [s2] at o2
    exact ⟨o1.alloc _, o2⟩
  · have o1 := hown2 W1 w.heap.size (by omega)
    have o2 := hown1 (W1.alloc (.cells M2 29)) w.heap.size (by omega)
    rw [s1] at o1
    rw [s2] at o2
    exact ⟨o2, o1.alloc _⟩

theorem specNewMemo_any (w : World) :
    Calls Try.prog 22 #[] w fun e w' => ∃ u1 u2 : Value, e = .returned (.agg #[u1, u2]) ∧ OwnM w.heap.size w' u1 u2 [0, 0, 0, 0] [(0, 0), (0, 0), (0, 0), (0, 0)] ∧ Below w.heap.size w w' := by
  obtain ⟨W0, hW0, k0, d0, z0⟩ := box1 w #[.slice none 0 0, .slice none 0 0] 27
  have HW0 : Hid (W0 = _) := hW0
  have p0 := at_cell k0 0
  have p1 := at_cell k0 1
  have f0 := at_open k0 0
  have f1 := at_open k0 1
  obtain ⟨M1, -, hmk1, hown1⟩ := made_ints 4 (by omega)
  obtain ⟨M2, hmk2, hown2⟩ := made_reps 4 (by omega)
  have hmk1' : ∀ W : World, (Instr.makeSlice 24 (.int .i64 4) (.int .i64 4)).run Try.prog W = .ok (.slice (some ⟨W.heap.size, 0, none⟩) 4 4) (W.alloc (.cells M1 2)) := hmk1
  have hmk2' : ∀ W : World, (Instr.makeSlice 25 (.int .i64 4) (.int .i64 4)).run Try.prog W = .ok (.slice (some ⟨W.heap.size, 0, none⟩) 4 4) (W.alloc (.cells M2 29)) := hmk2
  clear hmk1 hmk2 hW0
  go_enter Try.func22, Try.ntmps22
  go_wp2_with fail
  rw [← HW0.out]
  go_region
  · have HS : Hid _ := new_endM k0 d0 z0 hown1 hown2 (w.heap.size + 1) (w.heap.size + 1 + 1) _ _ (.inl ⟨rfl, rfl, rfl, rfl⟩)
    clear k0 d0 hown1 hown2 hmk1' hmk2' HW0
    go_wp2_with fail
    exact bodyPost_ret (v := .agg #[.slice (some ⟨w.heap.size + 1, 0, none⟩) 4 4, .slice (some ⟨w.heap.size + 1 + 1, 0, none⟩) 4 4]) (by simp [results, Try.results22, go_sem, at_cell HS.out.1]) rfl ⟨_, _, rfl, HS.out.2⟩
  · have HS : Hid _ := new_endM k0 d0 z0 hown1 hown2 (w.heap.size + 1 + 1) (w.heap.size + 1) _ _ (.inr ⟨rfl, rfl, rfl, rfl⟩)
    clear k0 d0 hown1 hown2 hmk1' hmk2' HW0
    go_wp2_with fail
    exact bodyPost_ret (v := .agg #[.slice (some ⟨w.heap.size + 1 + 1, 0, none⟩) 4 4, .slice (some ⟨w.heap.size + 1, 0, none⟩) 4 4]) (by simp [results, Try.results22, go_sem, at_cell HS.out.1]) rfl ⟨_, _, rfl, HS.out.2⟩
end Go.Proofs.Ytpmoefagpglddaa

namespace Go.Proofs.Ytpmoefagpglddaa
open Go.RowKit

set_option linter.unusedVariables false

set_option maxRecDepth 100000


theorem step_append {P : Program} {w : World} {ops : Array Oper} {o : Oper} {a : Act} {K : Act → World → Prop} {Q : Exit → Act → World → Prop} {E : Prop} (hgd : o.guard = none) (s x : Operand) (t : TypeId)
    (ho : o.op = .call { callee := .builtin .append, args := #[s, x], argTypes := #[t, t] })
    (base : Nat) (e : TypeId) (i : TypeInfo) (z : Value) (size bytes : Nat) (ht : P.underlying t = some (.slice e)) (hi : P.info? e = some i) (hz : i.zero = some z)
    (hsize : i.size = size) (hby : i.bytes = bytes) (hzs : z.cells.size = size) (hsz : 0 < size)
    (v : Value) (n : Nat) (xs : List Value) (hs : a.eval s = v) (hown : w.ownsRow base e size v n xs)
    (ad : Addr) (m c : Nat) (news : List Value) (hx : a.eval x = .slice (some ad) m c) (hl : news.length = m * size) (hnews : ∀ j u, news[j]? = some u → w.cell? (ad.add j) = some u) (h1 : ∀ u ∈ news, u.oneCell' = true)
    (h63 : n + m ≤ maxLen) (hbytes : (n + m) * bytes ≤ 140737488355328) (hbase : base ≤ w.heap.size)
    (h : ∀ v' w', w'.ownsRow base e size v' (n + m) (xs ++ news) → w.grownBy w' v.ownBlock → (v' = .slice none 0 0 ↔ v = .slice none 0 0 ∧ m = 0) → K (a.put o.dst v') w') :
    if Region.wanted o (yielded ops a.tmps) = true then Oper.wp P o a w K Q else E := by
  have hw : Region.wanted o (yielded ops a.tmps) = true := by simp [Region.wanted, hgd]
  rw [if_pos hw]
  exact wp_append_own w s x t ho base e i z size bytes ht hi hz hsize hby hzs hsz v n xs hs hown ad m c news hx hl hnews h1 h63 hbytes hbase h
end Go.Proofs.Ytpmoefagpglddaa

namespace Go.Proofs.Ytpmoefagpglddaa
open Go.RowKit

set_option linter.unusedVariables false

set_option maxRecDepth 100000


theorem flat_srcM {α : Type} {k : Nat} {cs : α → List Value} (hk : ∀ x, (cs x).length = k) (hk0 : 0 < k) {B : Nat} {w : World} {g off n cap : Nat} {xs : List α} (h : ReadsR k cs B w (.slice (some ⟨g, off, none⟩) n cap) xs) : ∀ j u, (xs.flatMap cs)[j]? = some u → w.cell? ((⟨g, off, none⟩ : Addr).add j) = some u := fun j u hj => by
  obtain ⟨o', cap', e, -, hc, -⟩ := h
  simp only [Value.slice.injEq] at e
  obtain ⟨rfl, rfl, rfl⟩ := e
  have hjl := (List.getElem?_eq_some_iff.1 hj).1
  rw [flat_length hk] at hjl
  have hi3 : j / k < xs.length := Nat.div_lt_of_lt_mul (by rw [Nat.mul_comm]; exact hjl)
  obtain ⟨g', off', e, hg, hx⟩ := hc (j / k) xs[j / k] (List.getElem?_eq_getElem hi3)
  simp only [Option.some.injEq, Addr.mk.injEq, and_true] at e
  obtain ⟨rfl, rfl⟩ := e
  have hr : j % k < k := Nat.mod_lt _ hk0
  have he : j / k * k + j % k = j := by rw [Nat.mul_comm]; exact Nat.div_add_mod j k
  have h1 := flat_get hk xs (j / k) (j % k) xs[j / k] (List.getElem?_eq_getElem hi3) hr
  rw [he, hj] at h1
  have h2 := hx (j % k) u h1.symm
  have ea : (⟨g, off, none⟩ : Addr).add j = ⟨g, off + j, none⟩ := by unfold Addr.add; split <;> simp_all
  rw [ea]
  rw [Nat.add_assoc, he] at h2
  exact h2

theorem reps_one (rs : List (Int × Int)) : ∀ u ∈ rs.flatMap repC, u.oneCell' = true := fun u hu => by
  obtain ⟨x, _, hx⟩ := List.mem_flatMap.1 hu
  simp [repC] at hx
  rcases hx with rfl | rfl <;> rfl

/-- A row of one's own stays where a box of another type is written. -/
theorem own_box_upto {w w' : World} {base b : Nat} {e : TypeId} {size : Nat} {v : Value} {n : Nat} {xs : List Value} {cs : Array Value} {t : TypeId} (h : w.ownsRow base e size v n xs) (k : w.heap[b]? = some (.cells cs t (0, 0))) (ht : t ≠ e) (u : Upto b w w') : w'.ownsRow base e size v n xs :=
  own_rng_not h fun g hg hv => u.block g hg fun e => own_not_box h k ht (by rw [hv, e])

theorem OwnM.box {base b : Nat} {w w' : World} {v1 v2 : Value} {ts : List Int} {rs : List (Int × Int)} {cs : Array Value} (h : OwnM base w v1 v2 ts rs) (k : w.heap[b]? = some (.cells cs 27 (0, 0))) (u : Upto b w w') : OwnM base w' v1 v2 ts rs := ⟨own_box_upto h.t k (by decide) u, own_box_upto h.r k (by decide) u⟩

/-- The answer's box is written. -/
theorem mem_end (w W : World) (u1 u2 x y : Value) (b : Nat) (ts : List Int) (rs : List (Int × Int)) (hb : w.heap.size ≤ b) (k : W.heap[b]? = some (.cells #[x, y] 27 (0, 0))) (own : OwnM w.heap.size W u1 u2 ts rs) (d : Below w.heap.size w W) :
    ((W.setCell ⟨b, 0, none⟩ u1).setCell ⟨b, 1, none⟩ u2).heap[b]? = some (.cells #[u1, u2] 27 (0, 0)) ∧ OwnM w.heap.size ((W.setCell ⟨b, 0, none⟩ u1).setCell ⟨b, 1, none⟩ u2) u1 u2 ts rs ∧ Below w.heap.size w ((W.setCell ⟨b, 0, none⟩ u1).setCell ⟨b, 1, none⟩ u2) := by
  obtain ⟨h1, h2⟩ := set_two k u1 u2
  exact ⟨h1, own.box k h2, d.trans (h2.toBelow d.size (by omega))⟩

set_option maxHeartbeats 1600000 in
theorem l12Copy_any (v1 v2 : Value) (ts : List Int) (rs : List (Int × Int)) (w : World) (h1 : ts.length = 4) (h2 : rs.length = 4) (r : RM w.heap.size w v1 v2 ts rs) :
    Calls Try.prog 36 #[.agg #[v1, v2]] w fun e w' => ∃ u1 u2 : Value, e = .returned (.agg #[u1, u2]) ∧ OwnM w.heap.size w' u1 u2 ts rs ∧ Below w.heap.size w w' := by
  obtain ⟨j0, ji, jz0, jz1, jz2⟩ := info_parts Try.infoRep
  obtain ⟨o1, cap1, o2, cap2, rfl, rfl⟩ := r.forms
  obtain ⟨g2, of2, rfl⟩ : ∃ g2 of2, o2 = some ⟨g2, of2, none⟩ := by
    obtain ⟨o', cap', e, -, hc, -⟩ := r.r
    simp only [Value.slice.injEq] at e
    obtain ⟨rfl, -, -⟩ := e
    obtain ⟨g, off, e, -⟩ := hc 0 _ (List.getElem?_eq_getElem (by omega))
    exact ⟨g, off, e⟩
  obtain ⟨W0, hW0, k0, k1, d0, z0⟩ := box2 w #[.slice o1 ts.length cap1, .slice (some ⟨g2, of2, none⟩) rs.length cap2] #[.slice none 0 0, .slice none 0 0] 27 27
  have HW0 : Hid (W0 = _) := hW0
  have r0 := (r.below d0).mono d0.size
  have RT : ∀ W', Below W0.heap.size W0 W' → Reads W'.heap.size W' (.slice o1 ts.length cap1) (ts.map (Value.int .i64)) := fun W' b => (r0.t.below b).mono b.size
  have RR : ∀ W', Below W0.heap.size W0 W' → ∀ j u, (rs.flatMap repC)[j]? = some u → W'.cell? ((⟨g2, of2, none⟩ : Addr).add j) = some u := fun W' b => flat_srcM repC_len (by decide) (r0.r.below b)
  have HLEN : Hid ((rs.flatMap repC).length = rs.length * 2) := flat_length repC_len rs
  have HMX : Hid (0 + rs.length ≤ maxLen) := by rw [Hid, h2]; unfold maxLen; omega
  have HBY : Hid ((0 + rs.length) * 16 ≤ 140737488355328) := by rw [Hid, h2]; omega
  have hts : ts.length ≤ 1048576 := by omega
  have HON : ∀ W : World, (W.alloc (.cells #[] 29)).ownsRow W.heap.size 29 2 (.slice (some ⟨W.heap.size, 0, none⟩) 0 0) 0 [] := fun W => World.ownsRow_lit W #[] 0 (Nat.le_refl _) (Nat.zero_le _) rfl
  have HKeep : ∀ W', Upto (w.heap.size + 1) W0 W' → (W'.cell? ⟨w.heap.size, 0, none⟩ = some (.slice o1 ts.length cap1) ∧ W'.cell? ⟨w.heap.size, 1, none⟩ = some (.slice (some ⟨g2, of2, none⟩) rs.length cap2)) := fun W' b =>
    ⟨(b.cell (p := ⟨w.heap.size, 0, none⟩) (heap_lt k0) (by simp)).trans (at_cell k0 0), (b.cell (p := ⟨w.heap.size, 1, none⟩) (heap_lt k0) (by simp)).trans (at_cell k0 1)⟩
  have hK1 := k1
  have s1 := heap_lt k1
  clear hW0 r r0 h1 h2
  go_enter Try.func36, Try.ntmps36
  go_upto_region 1 with fail
  rw [← HW0.out]
  clear HW0
  go_region_held3 (fun w' => w'.cell? ⟨w.heap.size, 0, none⟩ = some (.slice o1 ts.length cap1) ∧ w'.cell? ⟨w.heap.size, 1, none⟩ = some (.slice (some ⟨g2, of2, none⟩) rs.length cap2))
    ((refine HKeep _ ?_; repeat (first | exact U6 | exact U5 | exact Upto.refl _ _ | (apply Upto.setCell; rotate_left; exact Or.inl rfl) | refine Upto.drew ?_ | refine Upto.alloc ?_ _)))
    ((first
      | (go_simp; go_at_call 60; first
          | (refine (l1Copy_any _ ts _ hts (RT W0.drew (bw_drew (Below.refl _ _)))).mono ?_; rintro e w5 ⟨v5, rfl, own5, hn5, b5⟩; obtain ⟨o5, c5, rfl⟩ := own_slice own5; have B5 : Below W0.heap.size W0 w5 := bw_call (bw_drew (Below.refl _ _)) b5; have U5 : Upto (w.heap.size + 1) W0 w5 := Upto.ofBelow B5; dsimp only)
          | (refine (l1Copy_any _ ts _ hts (RT (W0.drew.alloc (.cells #[] 29)) (bw_alloc (bw_drew (Below.refl _ _))))).mono ?_; rintro e w5 ⟨v5, rfl, own5, hn5, b5⟩; obtain ⟨o5, c5, rfl⟩ := own_slice own5; have B5 : Below W0.heap.size W0 w5 := bw_call (bw_alloc (bw_drew (Below.refl _ _))) b5; have U5 : Upto (w.heap.size + 1) W0 w5 := Upto.ofBelow B5; dsimp only))
      | (refine step_append rfl (.tmp 6) (.tmp 8) 25 rfl W0.heap.size 29 j0 (.agg #[.int .i64 0, .int .i64 0]) 2 16 Try.underlying25 ji jz0 jz1 jz2 rfl (by decide) (.slice (some ⟨W0.heap.size, 0, none⟩) 0 0) 0 [] (by simp [Act.eval]) (owns_below (HON W0.drew) b5) ⟨g2, of2, none⟩ rs.length cap2 (rs.flatMap repC) (by simp [Act.eval]) HLEN.out (RR w5 B5) (reps_one rs) HMX.out HBY.out B5.size ?_; intro v6 w6 hown6 hgrow6 hnil6; obtain ⟨o6, c6, rfl⟩ := own_slice hown6; have B6 : Below W0.heap.size W0 w6 := Below.grown B5 hgrow6 B5.size (fun q hq => by simp [Value.ownBlock] at hq; omega); have U6 : Upto (w.heap.size + 1) W0 w6 := Upto.ofBelow B6; have k6 := (B6.block _ s1).trans hK1; have q0 := at_cell k6 0; have q1 := at_cell k6 1; have f0 := at_open k6 0; have f1 := at_open k6 1)
      | (refine step_append rfl (.tmp 6) (.tmp 8) 25 rfl w5.heap.size 29 j0 (.agg #[.int .i64 0, .int .i64 0]) 2 16 Try.underlying25 ji jz0 jz1 jz2 rfl (by decide) (.slice (some ⟨w5.heap.size, 0, none⟩) 0 0) 0 [] (by simp [Act.eval]) (HON w5) ⟨g2, of2, none⟩ rs.length cap2 (rs.flatMap repC) (by simp [Act.eval]) HLEN.out (RR (w5.alloc (.cells #[] 29)) (bw_alloc B5)) (reps_one rs) HMX.out HBY.out (by simp) ?_; intro v6 w6 hown6 hgrow6 hnil6; obtain ⟨o6, c6, rfl⟩ := own_slice hown6; have B6 : Below W0.heap.size W0 w6 := Below.grown (bw_alloc B5) hgrow6 (by simp; have := B5.size; omega) (fun q hq => by simp [Value.ownBlock] at hq; have := B5.size; omega); have U6 : Upto (w.heap.size + 1) W0 w6 := Upto.ofBelow B6; have k6 := (B6.block _ s1).trans hK1; have q0 := at_cell k6 0; have q1 := at_cell k6 1; have f0 := at_open k6 0; have f1 := at_open k6 1)))
  · have own5w := own5.alloc (.cells #[] 29)
    have own56 := owns_mono (own_rng_not own5w (fun g hg hv => hgrow6.block g hg (rows_two own5w (HON w5) (by decide) g hv).symm)) (show w.heap.size ≤ _ from d0.size)
    have own66 : w6.ownsRow w.heap.size 29 2 (.slice o6 rs.length c6) rs.length (rs.flatMap repC) := owns_mono (by simpa using hown6) (Nat.le_trans d0.size B5.size)
    have HS : Hid _ := mem_end w w6 _ _ _ _ (w.heap.size + 1) ts rs (by omega) k6 ⟨own56, own66⟩ (bw_call d0 B6)
    clear own5w own56 own66 own5 hown6 hgrow6 hnil6 B5 B6 U5 U6 b5 k6 q0 q1 f0 f1 HKeep HON RR RT k0 k1 hK1 hn5
    go_wp2_with fail
    exact bodyPost_ret (v := .agg #[.slice o5 ts.length c5, .slice o6 rs.length c6]) (by simp [results, Try.results36, go_sem, at_cell HS.out.1]) rfl ⟨_, _, rfl, HS.out.2⟩
  · have own56 := owns_mono (own_rng_not own5 (fun g hg hv => hgrow6.block g hg (rows_two own5 (owns_below (HON W0.drew) b5) (by decide) g hv).symm)) (show w.heap.size ≤ _ from Nat.le_trans d0.size (by simp))
    have own66 : w6.ownsRow w.heap.size 29 2 (.slice o6 rs.length c6) rs.length (rs.flatMap repC) := owns_mono (by simpa using hown6) d0.size
    have HS : Hid _ := mem_end w w6 _ _ _ _ (w.heap.size + 1) ts rs (by omega) k6 ⟨own56, own66⟩ (bw_call d0 B6)
    clear own56 own66 own5 hown6 hgrow6 hnil6 B5 B6 U5 U6 b5 k6 q0 q1 f0 f1 HKeep HON RR RT k0 k1 hK1 hn5
    go_wp2_with fail
    exact bodyPost_ret (v := .agg #[.slice o5 ts.length c5, .slice o6 rs.length c6]) (by simp [results, Try.results36, go_sem, at_cell HS.out.1]) rfl ⟨_, _, rfl, HS.out.2⟩
end Go.Proofs.Ytpmoefagpglddaa

