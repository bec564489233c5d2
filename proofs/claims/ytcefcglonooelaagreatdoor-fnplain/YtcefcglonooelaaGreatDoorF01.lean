/-
  What else is wanted.
-/
import Derived.WalkKit
import Derived.Below
import Derived.Laws.AppendOwn
import Derived.Deep.QuietTactic
import Derived.BigQuiet
import Derived.Test.YtcefcglonooelaaGreatDoorChecked
import Derived.Laws.OwnMore
import Derived.OwnWalk
import Derived.WalkSpells
import Derived.Laws.Bits128
import Derived.IntWalk
import Derived.Handy
import Derived.Laws.IdiomStrings
import Derived.Laws.MakeOwn
import Derived.Deep.RegionHeld3
import Derived.Deep.RegionLaw
import Derived.Deep.DeepCutAuto
import Derived.Laws.Cover1
import Derived.Laws.CopyOwn
import Derived.Lib.Strings
import Derived.Shelf.LaysM
import Derived.Shelf.Strconv.Clone
import Derived.Deep.WholeRow
import Derived.Lib.LazyBuf
import Derived.Deep.CutBlock
import Derived.Lib.Slices
import Derived.Lib.Walk
import Derived.Lib.Bytealg
import Derived.LaidEql
import Derived.Stop.Asserts
import Derived.RowKitTokens
import Derived.RangeFuncBox
import Derived.Test.YtcefcglonooelaaGreatDoorB01
import Derived.Test.YtcefcglonooelaaGreatDoorB02
import Derived.Test.YtcefcglonooelaaGreatDoorB03
import Derived.Test.YtcefcglonooelaaGreatDoorB04
import Derived.Test.YtcefcglonooelaaGreatDoorB05
import Derived.Test.YtcefcglonooelaaGreatDoorB06
import Derived.Test.YtcefcglonooelaaGreatDoorB07
import Derived.Test.YtcefcglonooelaaGreatDoorB08
import Derived.Test.YtcefcglonooelaaGreatDoorB09
import Derived.Test.YtcefcglonooelaaGreatDoorB10
import Derived.Test.YtcefcglonooelaaGreatDoorB11
import Derived.Test.YtcefcglonooelaaGreatDoorB12
import Derived.Test.YtcefcglonooelaaGreatDoorB13
import Derived.Test.YtcefcglonooelaaGreatDoorB14
import Derived.Test.YtcefcglonooelaaGreatDoorB15
import Derived.Test.YtcefcglonooelaaGreatDoorB16
import Derived.Test.YtcefcglonooelaaGreatDoorB17
import Derived.Test.YtcefcglonooelaaGreatDoorB18
import Derived.Test.YtcefcglonooelaaGreatDoorB19
import Derived.Test.YtcefcglonooelaaGreatDoorB20
import Derived.Test.YtcefcglonooelaaGreatDoorB21
import Derived.Test.YtcefcglonooelaaGreatDoorB22
import Derived.Test.YtcefcglonooelaaGreatDoorB23
import Derived.Test.YtcefcglonooelaaGreatDoorB24
import Derived.Test.YtcefcglonooelaaGreatDoorB25
import Derived.Test.YtcefcglonooelaaGreatDoorB26
import Derived.Test.YtcefcglonooelaaGreatDoorB27
import Derived.Test.YtcefcglonooelaaGreatDoorB28
import Derived.Test.YtcefcglonooelaaGreatDoorB29
import Derived.Test.YtcefcglonooelaaGreatDoorB30
import Derived.Test.YtcefcglonooelaaGreatDoorB31
import Derived.Test.YtcefcglonooelaaGreatDoorB32
import Derived.Test.YtcefcglonooelaaGreatDoorB33
import Derived.Test.YtcefcglonooelaaGreatDoorB34
import Derived.Test.YtcefcglonooelaaGreatDoorB35
import Derived.Test.YtcefcglonooelaaGreatDoorB36
import Derived.Test.YtcefcglonooelaaGreatDoorB37
import Derived.Test.YtcefcglonooelaaGreatDoorB38
import Derived.Test.YtcefcglonooelaaGreatDoorB39
import Derived.Test.YtcefcglonooelaaGreatDoorB40
import Derived.Test.YtcefcglonooelaaGreatDoorB41
import Derived.Test.YtcefcglonooelaaGreatDoorB42
import Derived.Test.YtcefcglonooelaaGreatDoorB43
import Derived.Test.YtcefcglonooelaaGreatDoorB44
import Derived.Test.YtcefcglonooelaaGreatDoorY01
namespace Go.Proofs.YtcefcglonooelaaGreatDoor
open Go.RowKit

set_option linter.unusedVariables false

set_option maxRecDepth 100000

/-- The blocks of a pool of one's own lie from base on, below the end of memory. -/
theorem OwnP.span {base : Nat} {w : World} {v1 v2 : Value} {cs ps : List Int} (h : OwnP base w v1 v2 cs ps) : ∀ g, (v1.ownBlock = some g ∨ v2.ownBlock = some g) → base ≤ g ∧ g < w.heap.size := by
  rintro g (h1 | h1)
  · exact h.c.lt g h1
  · exact h.p.lt g h1
end Go.Proofs.YtcefcglonooelaaGreatDoor

namespace Go.Proofs.YtcefcglonooelaaGreatDoor
open Go.RowKit

set_option linter.unusedVariables false

set_option maxRecDepth 100000

/-- The blocks of a shelf of one's own. -/
theorem OwnS.span {base : Nat} {w : World} {v1 v2 vb : Value} {cs ps : List Int} {bks : List Bk} (h : OwnS base w v1 v2 vb cs ps bks) : (∀ g, (v1.ownBlock = some g ∨ v2.ownBlock = some g) → base ≤ g ∧ g < w.heap.size) ∧ (∀ g, vb.ownBlock = some g → g < w.heap.size) ∧ ∀ b ∈ bks, ∀ g, b.m.ownBlock = some g → g < w.heap.size :=
  ⟨h.p.span, fun g hg => (h.b.row.lt g hg).2, fun b hb g hg => ((h.b.maps b hb).lt g hg).2⟩
end Go.Proofs.YtcefcglonooelaaGreatDoor

namespace Go.Proofs.YtcefcglonooelaaGreatDoor
open Go.RowKit

set_option linter.unusedVariables false

set_option maxRecDepth 100000

/-- All blocks of a row of one's own lie below hi. -/
def SpanK (hi : Nat) (vb : Value) (bks : List Pk) : Prop := (∀ g, vb.ownBlock = some g → g < hi) ∧ ∀ b ∈ bks, ∀ g, b.m.ownBlock = some g → g < hi

theorem OwnK.span {base : Nat} {w : World} {vb : Value} {bks : List Pk} (h : OwnK base w vb bks) : SpanK w.heap.size vb bks := ⟨fun g hg => (h.row.lt g hg).2, fun b hb g hg => ((h.maps b hb).lt g hg).2⟩
end Go.Proofs.YtcefcglonooelaaGreatDoor

namespace Go.Proofs.YtcefcglonooelaaGreatDoor
open Go.RowKit

set_option linter.unusedVariables false


/-- A row of plains as it is read by a law. -/
structure Q9 (W : World) (v : Value) (ms : List Pk) : Prop where
  r : ReadsK W.heap.size W v ms
  nm : ∀ m ∈ ms, m.nm.size ≤ 5
  ln : ∀ m ∈ ms, m.rs.length ≤ 17

set_option maxRecDepth 100000 in
set_option maxHeartbeats 6400000 in
theorem drawSamePlains_any (x : Option Addr) (len cap : Nat) (w : World) (hs : Src w w.heap.size x len) :
    Calls Tryz.prog 10 #[.slice x len cap] w fun e w' => ∃ (va vb : Value) (al bs : List Pk), e = .returned (.tuple #[va, vb]) ∧ Q9 w' va al ∧ Q9 w' vb bs ∧ Below w.heap.size w w' := by
  obtain ⟨i0, hi, hz0, hz1, hz2⟩ := info_parts Tryz.infoI64
  go_enter Tryz.func10, Tryz.ntmps10
  go_wp2_with fail
  refine (new_any x len cap _ hs).mono ?_
  rintro e w1 ⟨rfl, b1, kc⟩
  have z1 := b1.size
  have hcl := kc.lt
  have d := b1
  clear b1 hs
  go_wp2_with fail
  refine (draw9_any _ x len cap _ kc).mono ?_
  rintro e w2 ⟨va, al, rfl, K⟩
  have z2 := K.u.size
  replace d := d.trans (K.u.toBelow (by omega) (by omega))
  obtain ⟨oa, ca, rfl⟩ := own_slice K.own.row
  generalize hcc : w.heap.size = c at *
  have HCC : Hid (w.heap.size = c) := hcc
  clear hcc
  clear kc
  go_wp2_with fail
  refine (once_any c x len cap 2 _ (by omega) K.kc).mono ?_
  rintro e w3 ⟨y, rfl, u3, k3⟩
  have z3 := u3.size
  replace K := K.step u3 k3
  replace d := d.trans (u3.toBelow (by omega) (by omega))
  clear u3 k3
  have HSP : Hid (SpanK w3.heap.size (.slice oa al.length ca) al) := K.own.span
  cases y
  · go_wp2_with fail
    refine (draw9_any c x len cap _ K.kc).mono ?_
    rintro e w4 ⟨vb, bs, rfl, M⟩
    have u4 := M.u
    have z4 := u4.size
    have HA : Hid (Q9 w4 (.slice oa al.length ca) al) := by
      have K4 := K.step u4 M.kc
      exact ⟨K4.own.reads, fun m hm => (K4.fit m hm).nm, fun m hm => by have := (K4.fit m hm).ln; omega⟩
    have HB : Hid (Q9 w4 vb bs) := ⟨M.own.reads, fun m hm => (M.fit m hm).nm, fun m hm => by have := (M.fit m hm).ln; omega⟩
    have HD : Hid (Below c w w4) := d.trans (u4.toBelow (by omega) (by omega))
    obtain ⟨ob, cb, rfl⟩ := own_slice M.own.row
    clear K M u4 d
    go_wp2_with fail
    exact bodyPost_ret (v := .tuple #[.slice oa al.length ca, .slice ob bs.length cb]) (by simp [results, Tryz.results10, go_sem]) rfl ⟨_, _, al, bs, rfl, HA.out, HB.out, by rw [HCC.out]; exact HD.out⟩
  · go_wp2_with fail
    refine (l9Copy_any _ al _ (by have := K.few; omega) (fun m hm => by have := (K.fit m hm).ln; omega) K.own.reads).mono ?_
    rintro e w4 ⟨vb, bs, rfl, hbs, ob, apb, -, b4⟩
    have z4 := b4.size
    have HFB : Hid (∀ m ∈ bs, m.nm.size ≤ 5 ∧ 1 ≤ m.rs.length ∧ m.rs.length ≤ 16) := fun m hm => by
      have h1 : m.pv ∈ al.map Pk.pv := by rw [← hbs]; exact List.mem_map_of_mem hm
      obtain ⟨a, ha, e⟩ := List.mem_map.1 h1
      have f := K.fit a ha
      have e1 : a.nm = m.nm := congrArg Pv.nm e
      have e2 : a.rs = m.rs := congrArg Pv.vs e
      rw [← e1, ← e2]
      exact ⟨f.nm, f.ln⟩
    have hbl : bs.length = al.length := by have h := congrArg List.length hbs; simpa using h
    have hbl6 : bs.length ≤ 6 := by have := K.few; omega
    clear hbl hbs
    replace K := K.below b4
    replace d := d.trans (b4.mono (by omega))
    have hbc : c < w3.heap.size := by have := K.lt; omega
    clear b4
    obtain ⟨o4, c4, rfl⟩ := own_slice ob.row
    rcases Nat.eq_zero_or_pos bs.length with h0 | hpos
    · have h0' : ¬ (0 : Int) < (bs.length : Int) := by omega
      have HA : Hid (Q9 w4 (.slice oa al.length ca) al) := ⟨K.own.reads, fun m hm => (K.fit m hm).nm, fun m hm => by have := (K.fit m hm).ln; omega⟩
      have HB : Hid (Q9 w4 (.slice o4 bs.length c4) bs) := ⟨ob.reads, fun m hm => (HFB.out m hm).1, fun m hm => by have := (HFB.out m hm).2; omega⟩
      have HD : Hid (Below c w w4) := d
      clear K ob d h0
      go_wp2_with fail
      exact bodyPost_ret (v := .tuple #[.slice oa al.length ca, .slice o4 bs.length c4]) (by simp [results, Tryz.results10, go_sem]) rfl ⟨_, _, al, bs, rfl, HA.out, HB.out, by rw [HCC.out]; exact HD.out⟩
    have hp1 : (0 : Int) < (bs.length : Int) := by omega
    go_wp2_with fail
    refine (once_any c x len cap 2 _ (by omega) K.kc).mono ?_
    rintro e w5 ⟨y, rfl, u5, k5⟩
    have z5 := u5.size
    replace K := K.step u5 k5
    have ob5 : OwnK w3.heap.size w5 (.slice o4 bs.length c4) bs := ⟨ownsRow_upto ob.row u5 hbc, fun m hm => ownsRow_upto (ob.maps m hm) u5 hbc⟩
    replace d := d.trans (u5.toBelow (by omega) (by omega))
    clear u5 k5 ob
    cases y
    · have HA : Hid (Q9 w5 (.slice oa al.length ca) al) := ⟨K.own.reads, fun m hm => (K.fit m hm).nm, fun m hm => by have := (K.fit m hm).ln; omega⟩
      have HB : Hid (Q9 w5 (.slice o4 bs.length c4) bs) := ⟨ob5.reads, fun m hm => (HFB.out m hm).1, fun m hm => by have := (HFB.out m hm).2; omega⟩
      have HD : Hid (Below c w w5) := d
      clear K ob5 d
      go_wp2_with fail
      exact bodyPost_ret (v := .tuple #[.slice oa al.length ca, .slice o4 bs.length c4]) (by simp [results, Tryz.results10, go_sem]) rfl ⟨_, _, al, bs, rfl, HA.out, HB.out, by rw [HCC.out]; exact HD.out⟩
    · obtain ⟨g, hg⟩ : ∃ g, o4 = some ⟨g, 0, none⟩ := by
        rcases ob5.row.2 with ⟨_, h0⟩ | ⟨g, cap', cur, e, _⟩
        · omega
        · simp only [Value.slice.injEq] at e
          exact ⟨g, e.1⟩
      subst hg
      obtain ⟨⟨-, -, t2, -, -⟩, -, -, f2, -, -⟩ := own_fiveK ob5.row 0 hpos
      obtain ⟨⟨xn, xz, xm, xr, xf, xe⟩, hX⟩ : ∃ X : Pk, bs[0] = X := ⟨_, rfl⟩
      have HX : Hid (bs[0] = ⟨xn, xz, xm, xr, xf, xe⟩) := hX
      have owm := ob5.maps bs[0] (List.getElem_mem hpos)
      have hfx := HFB.out bs[0] (List.getElem_mem hpos)
      rw [hX] at t2 owm hfx
      simp only [Nat.zero_mul, Nat.zero_add] at t2 owm hfx f2
      clear hX
      obtain ⟨om, cm, hom⟩ := own_slice owm
      subst hom
      have hgl := ob5.row.lt g rfl
      have hlx : xr.length ≤ 16 := hfx.2.2
      have hl1 : 1 ≤ xr.length := hfx.2.1
      obtain ⟨gm, hgm⟩ : ∃ gm, om = some ⟨gm, 0, none⟩ := by
        rcases owm.2 with ⟨_, h0⟩ | ⟨g', cap', cur, e, _⟩
        · omega
        · simp only [Value.slice.injEq] at e
          exact ⟨g', e.1⟩
      subst hgm
      have hml := owm.lt gm rfl
      have hgg : gm ≠ g := fun e => rows_twoK ob5.row owm (by decide) g rfl (by rw [← e]; rfl)
      have HFIN : Hid (∀ (w6 : World) (g' cp' : Nat), Upto gm w5 w6 → w6.ownsRow w3.heap.size 2 1 (.slice (some ⟨g', 0, none⟩) (xr.length + 1) cp') (xr.length + 1) (xr.flatMap intC ++ [.int .i64 0]) → w6.cell? ⟨g, 2, none⟩ = some (.slice (some ⟨gm, 0, none⟩) xr.length cm) ∧ w6.frozen? ⟨g, 2, none⟩ = false ∧ Q9 (w6.setCell ⟨g, 2, none⟩ (.slice (some ⟨g', 0, none⟩) (xr.length + 1) cp')) (.slice oa al.length ca) al ∧ Q9 (w6.setCell ⟨g, 2, none⟩ (.slice (some ⟨g', 0, none⟩) (xr.length + 1) cp')) (.slice (some ⟨g, 0, none⟩) bs.length c4) (bs.set 0 ⟨xn, xz, .slice (some ⟨g', 0, none⟩) (xr.length + 1) cp', xr ++ [0], xf, xe⟩) ∧ Below c w (w6.setCell ⟨g, 2, none⟩ (.slice (some ⟨g', 0, none⟩) (xr.length + 1) cp'))) := fun w6 g' cp' U own' => by
        have hgl := ob5.row.lt g rfl
        have z6 := U.size
        have uG : Upto g w6 (w6.setCell ⟨g, 2, none⟩ (.slice (some ⟨g', 0, none⟩) (xr.length + 1) cp')) := (Upto.refl _ _).setCell ⟨g, 2, none⟩ (.inl rfl) _
        have own2 : w6.ownsRow w3.heap.size 2 1 (.slice (some ⟨g', 0, none⟩) (xr.length + 1) cp') (xr ++ [0]).length ((xr ++ [0]).flatMap intC) := by
          rw [List.length_append, List.flatMap_append]
          exact own'
        have row6 : w6.ownsRow w3.heap.size 51 5 (.slice (some ⟨g, 0, none⟩) bs.length c4) bs.length (bs.flatMap pkC) := own_rng_not ob5.row (fun q hq hv => U.block q hq (fun e => rows_twoK ob5.row owm (by decide) q hv (by rw [e]; rfl)))
        have row7 := own_put pkC_len row6 0 2 bs[0] ⟨xn, xz, .slice (some ⟨g', 0, none⟩) (xr.length + 1) cp', xr ++ [0], xf, xe⟩ (.slice (some ⟨g', 0, none⟩) (xr.length + 1) cp') (List.getElem?_eq_getElem hpos) (by decide) (by rw [HX.out]; rfl)
        rw [Nat.zero_mul, Nat.zero_add] at row7
        have oB : OwnK w3.heap.size (w6.setCell ⟨g, 2, none⟩ (.slice (some ⟨g', 0, none⟩) (xr.length + 1) cp')) (.slice (some ⟨g, 0, none⟩) bs.length c4) (bs.set 0 ⟨xn, xz, .slice (some ⟨g', 0, none⟩) (xr.length + 1) cp', xr ++ [0], xf, xe⟩) := by
          refine ⟨row7, fun m hm => ?_⟩
          obtain ⟨j, hj, rfl⟩ := List.mem_iff_getElem.1 hm
          rw [List.length_set] at hj
          by_cases e : 0 = j
          · subst e
            rw [List.getElem_set_self]
            exact own_rng_not own2 (fun q hq hv => uG.block q hq (fun e => rows_twoK row6 own2 (by decide) g rfl (by rw [← e]; exact hv)))
          · rw [List.getElem_set_ne e]
            have hne := apart_at9 apb 0 j hpos hj e gm (by rw [HX.out]; rfl)
            have o6 := own_rng_not (ob5.maps bs[j] (List.getElem_mem hj)) (fun q hq hv => U.block q hq (fun e2 => hne (by rw [← e2]; exact hv)))
            exact own_rng_not o6 (fun q hq hv => uG.block q hq (fun e2 => rows_twoK row6 o6 (by decide) g rfl (by rw [← e2]; exact hv)))
        have keepA : ∀ (e : TypeId) (kk n : Nat) (v : Value) (ys : List Value), (∀ q, v.ownBlock = some q → q < w3.heap.size) → w5.ownsRow w1.heap.size e kk v n ys → (w6.setCell ⟨g, 2, none⟩ (.slice (some ⟨g', 0, none⟩) (xr.length + 1) cp')).ownsRow w1.heap.size e kk v n ys := fun e kk n v ys hlt ho => by
          have o6 := own_rng_not ho (fun q hq hv => U.block q hq (fun e2 => by have := hlt q hv; omega))
          exact own_rng_not o6 (fun q hq hv => uG.block q hq (fun e2 => by have := hlt q hv; omega))
        have oA : OwnK w1.heap.size (w6.setCell ⟨g, 2, none⟩ (.slice (some ⟨g', 0, none⟩) (xr.length + 1) cp')) (.slice oa al.length ca) al := ⟨keepA _ _ _ _ _ HSP.out.1 K.own.row, fun m hm => keepA _ _ _ _ _ (HSP.out.2 m hm) (K.own.maps m hm)⟩
        refine ⟨(U.cell (p := ⟨g, 2, none⟩) hgl.2 (fun e => hgg e.symm)).trans t2, (U.frozen (p := ⟨g, 2, none⟩) hgl.2 (fun e => hgg e.symm)).trans f2, ⟨oA.reads, fun m hm => (K.fit m hm).nm, fun m hm => by have := (K.fit m hm).ln; omega⟩, ⟨oB.reads, fun m hm => ?_, fun m hm => ?_⟩, (d.trans (U.toBelow (by omega) (by omega))).trans (uG.toBelow (by omega) (by omega))⟩
        · rcases List.mem_or_eq_of_mem_set hm with q | rfl
          · exact (HFB.out m q).1
          · exact hfx.1
        · rcases List.mem_or_eq_of_mem_set hm with q | rfl
          · have := (HFB.out m q).2; omega
          · show (xr ++ [0]).length ≤ 17
            rw [List.length_append]
            have : ([0] : List Int).length = 1 := rfl
            omega
      have HW3 : Hid (w3.heap.size ≤ w5.heap.size) := by rw [Hid]; omega
      clear K d HSP HFB apb ob5 hfx HX hml hgl hgg
      go_wp2_with (at_builtin; refine wpList_append_own _ rfl _ _ 37 rfl w3.heap.size 2 i0 (.int .i64 0) 1 8 Tryz.underlying37 hi hz0 hz1 hz2 rfl (by decide) _ _ _ rfl (owm.alloc _) ⟨w5.heap.size, 0, none⟩ 1 1 [.int .i64 0] rfl rfl ?c1 ?c2 ?c3 ?c4 ?c5 ?_)
      case c1 => exact new_one _ _ _
      case c2 => first | rfl | (intro u hu; simp only [List.mem_singleton] at hu; subst hu; rfl)
      case c3 => unfold maxLen; omega
      case c4 => omega
      case c5 => have := HW3.out; simp; omega
      intro v' w6 hown' hgrow' hnil'
      obtain ⟨g', cp', hv'⟩ : ∃ g' cp', v' = .slice (some ⟨g', 0, none⟩) (xr.length + 1) cp' := owns_form hown'
      subst hv'
      have U : Upto gm w5 w6 := ((Upto.refl gm w5).alloc _).grown hgrow' (fun k hk => .inr (by simp [Value.ownBlock] at hk; exact hk.symm))
      obtain ⟨e2, e3, hA, hB, hDD⟩ := HFIN.out w6 g' cp' U hown'
      have HE : Hid _ := And.intro hA (And.intro hB hDD)
      clear hown' hgrow' hnil' U hA hB hDD HFIN owm t2 f2
      go_wp2_with fail
      exact bodyPost_ret (v := .tuple #[.slice oa al.length ca, .slice (some ⟨g, 0, none⟩) bs.length c4]) (by simp [results, Tryz.results10, go_sem]) rfl ⟨_, _, al, _, rfl, HE.out.1, HE.out.2.1, by rw [HCC.out]; exact HE.out.2.2⟩
end Go.Proofs.YtcefcglonooelaaGreatDoor

namespace Go.Proofs.YtcefcglonooelaaGreatDoor
set_option linter.unusedVariables false

set_option maxRecDepth 100000


theorem do_one_code (l : List Pv) (o : Oq) (i : Nat) (p : Pv) : (doOne l o i p).2.1 = 0 := by
  unfold doOne
  repeat (first | rfl | split)

/-- What is refused changes nothing, and only a write is told that there is no page. -/
theorem do_code {l : List Pv} {o : Oq} {told : Int} (h : (doPlain l o told).2.1 ≠ 0) : (doPlain l o told).1 = l ∧ ((doPlain l o told).2.1 = 9 → told = 9 ∧ o.k = 2) := by
  unfold doPlain at h ⊢
  split
  · exact ⟨rfl, fun q => by simp at q⟩
  rename_i h1
  rw [if_neg h1] at h
  split
  · refine ⟨rfl, fun q => ?_⟩
    have hr : 0 ≤ refused (l.map Pv.pb) o ∧ refused (l.map Pv.pb) o ≤ 8 := by
      unfold refused
      repeat (first | omega | (split <;> try omega))
    have q' : refused (l.map Pv.pb) o = 9 := q
    omega
  rename_i h2
  rw [if_neg h2] at h
  split
  · rename_i h3
    exact ⟨rfl, fun _ => ⟨h3.2, h3.1⟩⟩
  rename_i h3
  rw [if_neg h3] at h
  exfalso
  split at h
  · exact h rfl
  split at h
  · exact h rfl
  split at h
  · exact h rfl
  · exact h (do_one_code _ _ _ _)

theorem did_code {l : List Pv} {o : Oq} {told : Int} (hl : plainsOk l = true) (h : (didPlain l o told).2.1 ≠ 0) : (didPlain l o told).1 = l ∧ ((didPlain l o told).2.1 = 9 → told = 9 ∧ o.k = 2) := by
  rw [didPlain, if_pos hl] at h ⊢
  exact do_code h

theorem rd_ok {n : ByteArray} (h : Nums.nameB n.data.toList = true) (a : Int) (ha : 0 ≤ a ∧ a ≤ 255) : opOk ⟨9, n, ⟨#[]⟩, a, 0, 0⟩ = true := by
  simp only [opOk, h, inB]
  simp [ha.1, ha.2, kOther, kAt, kEpoch, valOk, kSize]
  rfl

theorem refused_rd {y : List Pv} (h : plainsOk y = true) (i : Nat) (hi : i < y.length) (a : Int) (ha : a < y[i].sz) : refused (y.map Pv.pb) ⟨9, y[i].nm, ⟨#[]⟩, a, 0, 0⟩ = 0 := by
  have hf := find_own h i hi
  have hsz : ¬ (y[i].pb.sz ≤ a) := by show ¬ y[i].sz ≤ a; omega
  unfold refused
  simp only [hf, book_own i hi]
  rw [if_neg (by omega), if_neg (by simp [kOther]), if_neg (by omega), if_neg (by simp [kEpoch]), if_neg (by simp [kEpoch]), if_neg (fun q => hsz q.2), if_neg (by simp [kOther]), if_neg (by simp)]

/-- What is written is read. -/
theorem write_read {l : List Pv} {nm ot : ByteArray} {at_ va ep told : Int} (hl : plainsOk l = true) (h : (didPlain l ⟨2, nm, ot, at_, va, ep⟩ told).2.1 = 0) : (didPlain (didPlain l ⟨2, nm, ot, at_, va, ep⟩ told).1 ⟨9, nm, ⟨#[]⟩, at_, 0, 0⟩ 0).2 = (0, va) := by
  have hd := did_plains l ⟨2, nm, ot, at_, va, ep⟩ told
  have e : didPlain l ⟨2, nm, ot, at_, va, ep⟩ told = doPlain l ⟨2, nm, ot, at_, va, ep⟩ told := by rw [didPlain, if_pos hl]
  rw [e] at h hd ⊢
  cases hok : opOk ⟨2, nm, ot, at_, va, ep⟩
  · rw [doPlain_bad told hok] at h
    simp at h
  by_cases href : refused (l.map Pv.pb) ⟨2, nm, ot, at_, va, ep⟩ = 0
  · by_cases hfull : told = 9
    · subst hfull
      rw [doPlain_full hok href rfl] at h
      simp at h
    · obtain ⟨i, hi, hfp, hpk, hpa, hpe⟩ := foundV (o := ⟨2, nm, ot, at_, va, ep⟩) hl href (show (2 : Int) ≠ 1 by decide)
      simp only at hfp hpa
      have hop := op_parts hok
      simp only at hop
      have hlt := hpa rfl
      obtain ⟨A, rfl⟩ := Int.eq_ofNat_of_zero_le hop.2.2.2.1.1
      have hD : doPlain l ⟨2, nm, ot, (A : Int), va, ep⟩ told = (l.set i { l[i] with vs := l[i].vs.set A va }, (0, 0)) := doPlain_one hi hok href (fun q => hfull q.2) ⟨(show (2 : Int) ≠ 1 by decide), (show (2 : Int) ≠ 6 by decide), rfl⟩ hfp
      rw [hD] at hd ⊢
      have hpp := pv_all hpk
      have hnm : l[i].nm = nm := by
        have h0 : ¬ findP (l.map Pv.pb) nm < 0 := by rw [hfp]; omega
        obtain ⟨j, hj, e1, e2⟩ := find_in (l.map Pv.pb) nm h0
        have : j = i := by have := e1.symm.trans hfp; omega
        subst this
        rw [List.getElem_map] at e2
        exact e2
      subst hnm
      have hi' : i < (l.set i { l[i] with vs := l[i].vs.set A va }).length := by rw [List.length_set]; exact hi
      have hn : ((l.set i { l[i] with vs := l[i].vs.set A va })[i]'hi') = { l[i] with vs := l[i].vs.set A va } := List.getElem_set_self hi'
      have hr := refused_rd hd i hi' (A : Int) (by rw [hn]; exact hlt)
      rw [hn] at hr
      simp only at hr
      have hf2 := find_own hd i hi'
      rw [hn] at hf2
      simp only at hf2
      rw [didPlain, if_pos hd, doPlain_one hi' (rd_ok hop.1 _ hop.2.2.2.1) hr (fun q => absurd q.2 (by decide)) ⟨(show (9 : Int) ≠ 1 by decide), (show (9 : Int) ≠ 6 by decide), rfl⟩ hf2, hn]
      show (0, (l[i].vs.set A va).getD ((A : Int).toNat) 0) = (0, va)
      have hAl : A < l[i].vs.length := by have := hpp.2.2.2.1; omega
      rw [Int.toNat_natCast, List.getD_eq_getElem?_getD, List.getElem?_set_self hAl]
      rfl
  · rw [doPlain_refd told hok href] at h
    exact absurd h href
end Go.Proofs.YtcefcglonooelaaGreatDoor

namespace Go.Proofs.YtcefcglonooelaaGreatDoor
open Go.RowKit

set_option linter.unusedVariables false

set_option maxRecDepth 100000


set_option maxHeartbeats 800000 in
theorem l1Same_any (v1 v2 : Value) (xs ys : List Int) (w : World) (h1 : Reads w.heap.size w v1 (xs.map (Value.int .i64))) (h2 : Reads w.heap.size w v2 (ys.map (Value.int .i64))) :
    Calls Tryz.prog 51 #[v1, v2] w fun e w' => e = .returned (.bool (decide (xs = ys))) ∧ Below w.heap.size w w' := by
  obtain ⟨o1, cap1, rfl, m1, c1, -⟩ := h1
  obtain ⟨o2, cap2, rfl, m2, c2, -⟩ := h2
  simp only [List.length_map] at m1 m2 c1 c2 ⊢
  by_cases hlen : xs.length = ys.length
  · rw [← hlen]
    have C1 : Hid (∀ j u, (xs.map (Value.int .i64))[j]? = some u → ∃ g off, o1 = some ⟨g, off, none⟩ ∧ g < w.heap.size ∧ w.cell? ⟨g, off + j, none⟩ = some u) := c1
    have C2 : Hid (∀ j u, (ys.map (Value.int .i64))[j]? = some u → ∃ g off, o2 = some ⟨g, off, none⟩ ∧ g < w.heap.size ∧ w.cell? ⟨g, off + j, none⟩ = some u) := c2
    have HL : Hid (xs.length = ys.length) := hlen
    have hle : ys.length ≤ xs.length := by omega
    have hge : xs.length ≤ ys.length := by omega
    unfold maxLen at m1
    clear c1 c2 m2 hlen
    go_enter Tryz.func51, Tryz.ntmps51
    go_wp2
    go_loopw [5] (fun i wr => ∃ k : Nat, k ≤ xs.length ∧ i = .int .i64 k ∧ xs.take k = ys.take k ∧ Below w.heap.size w wr) (fun i _ => xs.length - (intOf i).toNat)
    case atStart => exact ⟨0, Nat.zero_le _, rfl, rfl, Below.refl _ _⟩
    case round =>
      obtain ⟨k, hk, rfl, htk, hb⟩ := hrel
      have HT : Hid (xs.take k = ys.take k) := htk
      clear htk
      by_cases hlt : k < xs.length
      · have hlt2 : k < ys.length := by omega
        obtain ⟨g1, of1, rfl, q1, cc1⟩ := C1.out k (.int .i64 xs[k]) (by simp [hlt])
        obtain ⟨g2, of2, rfl, q2, cc2⟩ := C2.out k (.int .i64 ys[k]) (by simp [hlt2])
        generalize hx : xs[k] = x at cc1
        generalize hy : ys[k] = y at cc2
        have HX : Hid (xs[k] = x) := hx
        have HY : Hid (ys[k] = y) := hy
        clear hx hy C1 C2
        have d1 := (hb.cell (p := ⟨g1, of1 + k, none⟩) q1).trans cc1
        have d2 := (hb.cell (p := ⟨g2, of2 + k, none⟩) q2).trans cc2
        clear cc1 cc2
        go_wp2
        go_quiet (fail)
        go_wp2
        · have hne : x ≠ y := int_ne (by assumption)
          rw [← HX.out, ← HY.out] at hne
          go_ret
          exact ⟨ret_bool (by simp [ne_at xs ys k hlt hlt2 hne]), ⟨hb.os, hb.tape, hb.output, hb.size, hb.block⟩⟩
        · have he : x = y := int_same (by assumption)
          rw [← HX.out, ← HY.out] at he
          go_roundw
          case rel => exact ⟨k + 1, by omega, by go_num, take_more xs ys k hlt hlt2 HT.out he, ⟨hb.os, hb.tape, hb.output, hb.size, hb.block⟩⟩
          case measure => simp [intOf]; omega
      · go_wp2
        go_ret
        exact ⟨ret_bool (by simp [all_taken xs ys k hlt HL.out HT.out]), hb⟩
  · have hn : ((xs.length : Int) != (ys.length : Int)) = true := by rw [bne_iff_ne]; omega
    have HX : Hid (decide (xs = ys) = false) := by rw [Hid, decide_eq_false_iff_not]; intro e; rw [e] at hlen; exact hlen rfl
    unfold maxLen at m1 m2
    clear hlen c1 c2
    go_enter Tryz.func51, Tryz.ntmps51
    go_wp2
    go_ret
    exact ⟨ret_bool HX.out.symm, Below.refl _ _⟩

theorem l1SameK_any (v1 v2 : Value) (xs ys : List Int) (w : World) (h1 : ReadsR 1 intC w.heap.size w v1 xs) (h2 : ReadsR 1 intC w.heap.size w v2 ys) :
    Calls Tryz.prog 51 #[v1, v2] w fun e w' => e = .returned (.bool (decide (xs = ys))) ∧ Below w.heap.size w w' := l1Same_any v1 v2 xs ys w (readsK_to h1) (readsK_to h2)
end Go.Proofs.YtcefcglonooelaaGreatDoor

namespace Go.Proofs.YtcefcglonooelaaGreatDoor
set_option linter.unusedVariables false

set_option maxRecDepth 100000


def sameOf (nm nm' : ByteArray) (sz sz' : Int) (fx fx' : Bool) (ep ep' : Int) (vs vs' : List Int) : Bool := (nm.toList == nm'.toList) && (sz == sz') && (fx == fx') && (ep == ep') && decide (vs = vs')

def Pv.same (p q : Pv) : Bool := sameOf p.nm q.nm p.sz q.sz p.fx q.fx p.ep q.ep p.vs q.vs

def samePlains (ps bs : List Pv) : Bool := decide (ps.length = bs.length) && (ps.zip bs).all (fun x => x.1.same x.2)

theorem same_len {ps bs : List Pv} (h : ps.length ≠ bs.length) : samePlains ps bs = false := by simp [samePlains, h]

theorem same_no {ps bs : List Pv} (i : Nat) (h1 : i < ps.length) (h2 : i < bs.length) (h : ps[i].same bs[i] = false) : samePlains ps bs = false := by
  have : (ps.zip bs).all (fun x => x.1.same x.2) = false := by
    rw [List.all_eq_false]
    exact ⟨(ps[i], bs[i]), by
      have hz : i < (ps.zip bs).length := by simp; omega
      have := List.getElem_mem hz
      rwa [List.getElem_zip] at this, by simp [h]⟩
  simp [samePlains, this]

theorem same_yes {ps bs : List Pv} (hl : ps.length = bs.length) (h : ∀ i (h1 : i < ps.length) (h2 : i < bs.length), ps[i].same bs[i] = true) : samePlains ps bs = true := by
  have : (ps.zip bs).all (fun x => x.1.same x.2) = true := by
    rw [List.all_eq_true]
    intro x hx
    obtain ⟨i, hi, rfl⟩ := List.getElem_of_mem hx
    rw [List.getElem_zip]
    simp only [List.length_zip] at hi
    exact h i (by omega) (by omega)
  simp [samePlains, this, hl]
end Go.Proofs.YtcefcglonooelaaGreatDoor

