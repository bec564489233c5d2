/-
  Contracts and plain laws, one chapter behind the other.
-/
import Derived.Deep.DeepCutAuto
import Derived.Laws.Cover1
import Derived.Test.YtcefcglonooelaaGreatDoorB05
import Derived.Test.YtcefcglonooelaaGreatDoorB06
import Derived.Test.YtcefcglonooelaaGreatDoorB08
import Derived.Test.YtcefcglonooelaaGreatDoorB09
import Derived.Test.YtcefcglonooelaaGreatDoorB12
import Derived.Test.YtcefcglonooelaaGreatDoorB23
import Derived.Test.YtcefcglonooelaaGreatDoorB24
namespace Go.Proofs.YtcefcglonooelaaGreatDoor
open Go.RowKit

set_option linter.unusedVariables false


theorem own_noplains (w : World) : (w.alloc (.cells #[] 51)).ownsRow w.heap.size 51 5 (.slice (some ⟨w.heap.size, 0, none⟩) 0 0) 0 [] := World.ownsRow_lit w #[] 0 (Nat.le_refl _) (Nat.zero_le _) rfl

theorem pages_reads {w : World} {base g cap : Nat} {rs : List (Int × Int × Int)} (op : w.ownsRow base 2 1 (.slice (some ⟨g, 0, none⟩) 16 cap) 16 ((pages rs).map (Value.int .i64))) : ReadsR 1 intC w.heap.size w (.slice (some ⟨g, 0, none⟩) 16 cap) (pages rs) := by
  have h : w.ownsRow base 2 1 (.slice (some ⟨g, 0, none⟩) 16 cap) (pages rs).length ((pages rs).flatMap intC) := by rw [flat_intC, pages_length]; exact op
  exact ReadsR.of_own intC_len h

theorem one_plain (b : Pk) (h : ∃ o k cp, b.m = .slice o k cp) : ∀ u ∈ pkC b, u.oneCell' = true := fun u hu => by
  obtain ⟨o, k, cp, h⟩ := h
  simp [pkC, h] at hu
  rcases hu with rfl | rfl | rfl | rfl | rfl <;> rfl

set_option maxRecDepth 100000 in
set_option maxHeartbeats 6400000 in
theorem l9Shown_any (v1 v2 vb : Value) (cs ps : List Int) (bks : List Bk) (w : World) (hinv : ShInv ⟨cs, ps, bks.map Bk.pb⟩) (r1 : Reads w.heap.size w v1 (cs.map (Value.int .i64))) (r2 : Reads w.heap.size w v2 (ps.map (Value.int .i64))) (rb : ReadsB w.heap.size w vb bks) :
    Calls Tryz.prog 56 #[.agg #[v1, v2, vb]] w fun e w' => ∃ (v' : Value) (ms : List Pk), e = .returned v' ∧ ms.map Pk.pv = (bks.map Bk.pb).map (shownP ps) ∧ OwnK w.heap.size w' v' ms ∧ Below w.heap.size w w' := by
  obtain ⟨i0, hi, hz0, hz1, hz2⟩ := info_parts Tryz.infoI64
  obtain ⟨j0, ji, jz0, jz1, jz2⟩ := info_parts Tryz.infoPlain
  have RM : Hid _ := rb.maps
  have HFEW : Hid (bks.length ≤ 6) := by rw [Hid]; have := hinv.few; simpa using this
  have HPART : Hid (∀ i (h : i < bks.length), mapOk bks[i].rs = true ∧ (1 ≤ bks[i].sz ∧ bks[i].sz ≤ 16) ∧ ∀ k, k < 16 → -1 ≤ (pages bks[i].rs).getD k 0 ∧ (pages bks[i].rs).getD k 0 < ps.length) := fun i h => by
    have := shown_parts hinv i (by simpa using h)
    simpa [Bk.pb] using this
  obtain ⟨o1, cp1, rfl, -⟩ := r1
  obtain ⟨o2, cp2, rfl, m2, c2, -⟩ := r2
  obtain ⟨ob, cpb, rfl, mb, cb, -⟩ := rb.row
  simp only [List.length_map] at m2 c2 ⊢
  have C2 : Hid (∀ j u, (ps.map (Value.int .i64))[j]? = some u → ∃ g off, o2 = some ⟨g, off, none⟩ ∧ g < w.heap.size ∧ w.cell? ⟨g, off + j, none⟩ = some u) := c2
  have HC : Hid _ := five_cells cb
  unfold maxLen at m2 mb
  clear c2 cb rb hinv
  obtain ⟨W0, hW0, kS, d0, z0⟩ := box1 w #[.slice o1 cs.length cp1, .slice o2 ps.length cp2, .slice ob bks.length cpb] 42
  have own0 := own_noplains W0
  have bd0 : Below W0.heap.size W0 (W0.alloc (.cells #[] 51)) := bw_alloc (Below.refl _ _)
  have HW0 : Hid (W0 = _) := hW0
  have HD0 : Hid (Below w.heap.size w W0 ∧ W0.heap.size = w.heap.size + 1) := ⟨d0, z0⟩
  have HKS : Hid _ := kS
  clear hW0 d0 z0 kS
  go_enter Tryz.func56, Tryz.ntmps56
  go_wp2_with fail
  rw [← HW0.out]
  clear HW0
  rw [show w.heap.size + 1 = W0.heap.size from HD0.out.2.symm]
  generalize W0.alloc (.cells #[] 51) = W1 at own0 bd0 ⊢
  go_loopw [3, 4] (fun q i wr => ∃ (j g cp : Nat) (ms : List Pk), j ≤ bks.length ∧ i = .int .i64 j ∧ q = .slice (some ⟨g, 0, none⟩) ms.length cp ∧ ms.map Pk.pv = ((bks.take j).map Bk.pb).map (shownP ps) ∧ OwnK W0.heap.size wr (.slice (some ⟨g, 0, none⟩) ms.length cp) ms ∧ Below W0.heap.size W0 wr) (fun _ i _ => bks.length - (intOf i).toNat)
  case atStart => exact ⟨0, _, _, [], Nat.zero_le _, rfl, rfl, rfl, ⟨own0, fun b hb => by simp at hb⟩, bd0⟩
  case round =>
    rename World => wo
    clear own0 bd0
    obtain ⟨j, g, cp, ms, hj, rfl, rfl, hpl, own, hb⟩ := hrel
    have HML : Hid (ms.length = j) := by have := congrArg List.length hpl; simp at this; rw [Hid]; omega
    have hb0 : Below w.heap.size w wo := HD0.out.1.trans (hb.mono (by have := HD0.out.2; omega))
    have hw1 : w.heap.size < wo.heap.size := by have := hb.size; have := HD0.out.2; omega
    have kSr := (hb.block w.heap.size (by have := HD0.out.2; omega)).trans HKS.out
    have s1 := at_cell kSr 1
    have s2 := at_cell kSr 2
    by_cases hlt : j < bks.length
    · obtain ⟨g0, off, rfl, hg, a0, a1, a2, a3, a4⟩ := HC.out j hlt
      have rm := ((RM.out bks[j] (List.getElem_mem hlt)).below hb0).mono hb0.size
      have hpart := HPART.out j hlt
      have hpt : ((bks.take (j + 1)).map Bk.pb).map (shownP ps) = ((bks.take j).map Bk.pb).map (shownP ps) ++ [shownP ps bks[j].pb] := by rw [List.take_succ_eq_append_getElem hlt, List.map_append, List.map_append]; rfl
      obtain ⟨x, hx⟩ : ∃ x, bks[j] = x := ⟨_, rfl⟩
      rw [hx] at a0 a1 a2 a3 a4 rm hpart hpt
      clear hx
      obtain ⟨nm, sz, m, rs, fx, ep⟩ := x
      simp only at a0 a1 a2 a3 a4 rm hpart
      obtain ⟨hmok, ⟨hs1, hs2⟩, hpg⟩ := hpart
      obtain ⟨om, cm, hmm⟩ := rm.form
      subst hmm
      obtain ⟨n, hn⟩ := Int.eq_ofNat_of_zero_le (show 0 ≤ sz by omega)
      subst hn
      have hn16 : n ≤ 16 := by omega
      have HPG : Hid _ := hpg
      have HP : Hid _ := And.intro hpl hpt
      replace a0 := (hb0.cell (p := ⟨g0, off + j * 5, none⟩) hg).trans a0
      replace a1 := (hb0.cell (p := ⟨g0, off + j * 5 + 1, none⟩) hg).trans a1
      replace a2 := (hb0.cell (p := ⟨g0, off + j * 5 + 2, none⟩) hg).trans a2
      replace a3 := (hb0.cell (p := ⟨g0, off + j * 5 + 3, none⟩) hg).trans a3
      replace a4 := (hb0.cell (p := ⟨g0, off + j * 5 + 4, none⟩) hg).trans a4
      obtain ⟨W2, hW2, kA, kP, d2, z2⟩ := box2 wo #[.string nm, .int .i64 (n : Int), .slice om rs.length cm, .bool fx, .int .i64 ep] #[.string nm, .int .i64 (n : Int), .slice none 0 0, .bool fx, .int .i64 ep] 87 51
      have rm2 := (rm.below d2).mono d2.size
      have u0 := at_cell kA 0
      have u1 := at_cell kA 1
      have u2 := at_cell kA 2
      have u3 := at_cell kA 3
      have u4 := at_cell kA 4
      have HK2 : Hid _ := And.intro kA (And.intro kP (And.intro d2 z2))
      have HOWN : Hid _ := And.intro own (And.intro hb (And.intro hb0 kSr))
      -- the book's box alone, ahead of the plain's
      obtain ⟨WA, hWA, kA1, dA, -⟩ := box1 wo #[.string nm, .int .i64 (n : Int), .slice om rs.length cm, .bool fx, .int .i64 ep] 87
      have p0 := at_cell kA1 0
      have p1 := at_cell kA1 1
      have p3 := at_cell kA1 3
      have p4 := at_cell kA1 4
      have HW2 : Hid (W2 = _) := hW2
      clear own hb hb0 kSr kA kP d2 z2 rm hpl hpt kA1 dA
      subst hWA
      clear hW2
      have i0' : (0 : Int) ≤ (j : Int) := by omega
      have i1' : (j : Int) < (bks.length : Int) := by omega
      have HRM : Hid (ReadsR 3 runC W2.heap.size W2 (.slice om rs.length cm) rs) := rm2
      have HMOK : Hid (mapOk rs = true) := hmok
      clear rm2 hmok hpg
      have HW2b := HW2.out
      subst HW2b
      clear HW2
      go_wp2_with fail
      refine (l5Pages_any _ rs _ HMOK.out HRM.out).mono ?_
      rintro e w3 ⟨gp, cpp, rfl, op, b3⟩
      obtain ⟨kA, kP, d2, z2⟩ := HK2.out
      have d3 : Below wo.heap.size wo w3 := d2.trans (b3.mono d2.size)
      have kA3 := (b3.block _ (heap_lt kA)).trans kA
      have kP3 := (b3.block _ (heap_lt kP)).trans kP
      have hz3 : wo.heap.size + 1 < w3.heap.size := heap_lt kP3
      have RP : Hid (ReadsR 1 intC w3.heap.size w3 (.slice (some ⟨gp, 0, none⟩) 16 cpp) (pages rs)) := pages_reads op
      have HGP : Hid (gp ≠ wo.heap.size + 1) := fun e => own_not_box op kP3 (by decide) (by rw [e]; rfl)
      have H3 : Hid _ := And.intro kA3 (And.intro d3 hz3)
      have KP3 : Hid _ := kP3
      clear op b3 kA kP d2 z2 d3 kA3 kP3 hz3 HK2 HRM u0 u1 u2 u3 u4 p0 p1 p3 p4 a0 a1 a2 a3 a4 s1 s2
      go_wp2_with fail
      go_loopw [8] (fun i WW => ∃ (k : Nat) (vv : Value), k ≤ n ∧ i = .int .i64 k ∧ WW.heap[wo.heap.size + 1]? = some (.cells #[.string nm, .int .i64 (n : Int), vv, .bool fx, .int .i64 ep] 51 (0, 0)) ∧ WW.ownsRow w3.heap.size 2 1 vv k ((shownV ps rs k).map (Value.int .i64)) ∧ Upto (wo.heap.size + 1) w3 WW) (fun i _ => n - (intOf i).toNat)
      case atStart => exact ⟨0, _, Nat.zero_le _, rfl, KP3.out, World.ownsRow_nil _ _ _ _, Upto.refl _ _⟩
      case round =>
        obtain ⟨k, vv, hk, rfl, kP, ow, up⟩ := hrel
        have HKP : Hid _ := kP
        have HOW : Hid (wr.ownsRow w3.heap.size 2 1 vv k ((shownV ps rs k).map (Value.int .i64))) := ow
        have HU : Hid _ := up
        obtain ⟨own, hb, hb0, kSr⟩ := HOWN.out
        obtain ⟨kA3, d3, hz3⟩ := H3.out
        have upB : Below wo.heap.size w3 wr := up.toBelow (by omega) (by omega)
        have kAi := (up.block wo.heap.size (by omega) (by omega)).trans kA3
        have kSi := (upB.block w.heap.size (by omega)).trans ((d3.block w.heap.size (by omega)).trans kSr)
        have u1 := at_cell kAi 1
        have s1 := at_cell kSi 1
        have HDI : Hid (Below w.heap.size w wr) := (hb0.trans (d3.mono hb0.size)).trans (upB.mono hb0.size)
        by_cases hkn : k < n
        · have HKN : Hid (k < n ∧ n ≤ 16) := ⟨hkn, hn16⟩
          obtain ⟨og, ocp, hf, -, hcc, -⟩ := RP.out
          simp only [Value.slice.injEq] at hf
          obtain ⟨hf1, -, -⟩ := hf
          obtain ⟨g1, of1, e1, l1, cc⟩ := one_cellK hcc k (by rw [pages_length]; omega)
          rw [← hf1] at e1
          cases e1
          have cpg := (up.cell (p := ⟨gp, 0 + k, none⟩) l1 HGP.out).trans cc
          have hgd : (pages rs)[k]'(by rw [pages_length]; omega) = (pages rs).getD k 0 := by simp [show k < (pages rs).length by rw [pages_length]; omega]
          have hpgk := HPG.out k (by omega)
          obtain ⟨pg, hpgv⟩ : ∃ pg, (pages rs).getD k 0 = pg := ⟨_, rfl⟩
          have HX0 : Hid (valAt ps rs k = if pg < 0 then 0 else ps.getD pg.toNat 0) := by rw [Hid, valAt, hpgv]
          rw [hgd, hpgv, Nat.zero_add] at cpg
          rw [hpgv] at hpgk
          have j0' : (0 : Int) ≤ (k : Int) := by omega
          have j1' : (k : Int) < 16 := by omega
          have j2' : (k : Int) < (n : Int) := by omega
          clear hcc cc hgd hpgv own hb hb0 kSr kA3 d3 upB kAi kSi kP ow up hf1
          by_cases hpos : 0 ≤ pg
          · obtain ⟨pn, hpn⟩ := Int.eq_ofNat_of_zero_le hpos
            subst hpn
            have hpl : pn < ps.length := by omega
            obtain ⟨g2, of2, e2, l2, cv⟩ := C2.out pn (.int .i64 ps[pn]) (by simp [hpl])
            subst e2
            replace cv := (HDI.out.cell (p := ⟨g2, of2 + pn, none⟩) l2).trans cv
            obtain ⟨x, hx⟩ : ∃ x, ps[pn] = x := ⟨_, rfl⟩
            have HX : Hid (valAt ps rs k = x) := by rw [Hid, HX0.out, if_neg (by omega), ← hx]; simp [hpl]
            rw [hx] at cv
            have q1 : (pn : Int) < (ps.length : Int) := by omega
            clear hx HX0
            go_wp2_with fail
            go_quiet (fail)
            have OWX : Hid ((wr.drewN nq).ownsRow w3.heap.size 2 1 vv k ((shownV ps rs k).map (Value.int .i64))) := HOW.out
            have UX : Hid (Upto (wo.heap.size + 1) w3 (wr.drewN nq)) := HU.out.drewN nq
            have pc2 := at_cell HKP.out 2
            go_wp2_with (at_builtin; refine wpList_append_own _ rfl _ _ 37 rfl w3.heap.size 2 i0 (.int .i64 0) 1 8 Tryz.underlying37 hi hz0 hz1 hz2 rfl (by decide) _ _ _ rfl (OWX.out.alloc _) ⟨wr.heap.size, 0, none⟩ 1 1 [.int .i64 x] rfl rfl ?c1 ?c2 ?c3 ?c4 ?c5 ?_)
            case c1 => exact new_one _ _ _
            case c2 => first | rfl | (intro u hu; simp only [List.mem_singleton] at hu; subst hu; rfl)
            case c3 => have := HKN.out; unfold maxLen; omega
            case c4 => have := HKN.out; omega
            case c5 => have := HU.out.size; simp at this ⊢; omega
            intro v' w5 hown' hgrow' hnil'
            have hne : (some (wo.heap.size + 1) : Option Nat) ≠ vv.ownBlock := fun e => own_not_box HOW.out HKP.out (by decide) e.symm
            have k5 : w5.heap[wo.heap.size + 1]? = some (.cells #[.string nm, .int .i64 (n : Int), vv, .bool fx, .int .i64 ep] 51 (0, 0)) := (hgrow'.block _ (by have := heap_lt HKP.out; simp; omega) hne).trans ((Below.heap_alloc _ _ _ (heap_lt HKP.out)).trans HKP.out)
            have k6 := set_at k5 2 v'
            have own5 : w5.ownsRow w3.heap.size 2 1 v' (k + 1) ((shownV ps rs (k + 1)).map (Value.int .i64)) := by rw [shownV_succ, HX.out, List.map_append]; exact hown'
            have own6 := own_box own5 k5 (by decide) 2 v'
            have U6 : Upto (wo.heap.size + 1) w3 (w5.setCell ⟨wo.heap.size + 1, 2, none⟩ v') := ((UX.out.alloc _).grown hgrow' (fun q hq => .inl (HOW.out.lt q hq).1)).setCell ⟨wo.heap.size + 1, 2, none⟩ (.inl rfl) v'
            have c5 := at_cell k5 2
            have f5 := at_open k5 2
            obtain ⟨o5, cp5, hv5⟩ := own_slice own5
            subst hv5
            have HR : Hid _ := And.intro k6 (And.intro own6 U6)
            clear hown' hgrow' hnil' hne k5 k6 own5 own6 U6 HKP HOW HU OWX UX
            go_wp2_with fail
            go_roundw
            case rel => exact ⟨k + 1, _, by have := HKN.out; omega, by go_num, HR.out⟩
            case measure => simp [intOf]; omega
          · obtain ⟨x, hx⟩ : ∃ x : Int, x = 0 := ⟨_, rfl⟩
            have HX : Hid (valAt ps rs k = x) := by rw [Hid, HX0.out, if_pos (by omega), hx]
            have q1 : ¬ (0 : Int) ≤ pg := hpos
            have OWX : Hid (wr.ownsRow w3.heap.size 2 1 vv k ((shownV ps rs k).map (Value.int .i64))) := HOW.out
            have UX : Hid (Upto (wo.heap.size + 1) w3 wr) := HU.out
            have pc2 := at_cell HKP.out 2
            subst hx
            clear HX0
            go_wp2_with (at_builtin; refine wpList_append_own _ rfl _ _ 37 rfl w3.heap.size 2 i0 (.int .i64 0) 1 8 Tryz.underlying37 hi hz0 hz1 hz2 rfl (by decide) _ _ _ rfl (OWX.out.alloc _) ⟨wr.heap.size, 0, none⟩ 1 1 [.int .i64 0] rfl rfl ?y1 ?y2 ?y3 ?y4 ?y5 ?_)
            case y2 => first | rfl | (intro u hu; simp only [List.mem_singleton] at hu; subst hu; rfl)
            case y3 => have := HKN.out; unfold maxLen; omega
            case y4 => have := HKN.out; omega
            case y5 => have := HU.out.size; simp at this ⊢; omega
            intro v' w5 hown' hgrow' hnil'
            have hne : (some (wo.heap.size + 1) : Option Nat) ≠ vv.ownBlock := fun e => own_not_box HOW.out HKP.out (by decide) e.symm
            have k5 : w5.heap[wo.heap.size + 1]? = some (.cells #[.string nm, .int .i64 (n : Int), vv, .bool fx, .int .i64 ep] 51 (0, 0)) := (hgrow'.block _ (by have := heap_lt HKP.out; simp; omega) hne).trans ((Below.heap_alloc _ _ _ (heap_lt HKP.out)).trans HKP.out)
            have k6 := set_at k5 2 v'
            have own5 : w5.ownsRow w3.heap.size 2 1 v' (k + 1) ((shownV ps rs (k + 1)).map (Value.int .i64)) := by rw [shownV_succ, HX.out, List.map_append]; exact hown'
            have own6 := own_box own5 k5 (by decide) 2 v'
            have U6 : Upto (wo.heap.size + 1) w3 (w5.setCell ⟨wo.heap.size + 1, 2, none⟩ v') := ((UX.out.alloc _).grown hgrow' (fun q hq => .inl (HOW.out.lt q hq).1)).setCell ⟨wo.heap.size + 1, 2, none⟩ (.inl rfl) v'
            have c5 := at_cell k5 2
            have f5 := at_open k5 2
            obtain ⟨o5, cp5, hv5⟩ := own_slice own5
            subst hv5
            have HR : Hid _ := And.intro k6 (And.intro own6 U6)
            clear hown' hgrow' hnil' hne k5 k6 own5 own6 U6 HKP HOW HU OWX UX
            go_wp2_with fail
            go_roundw
            case rel => exact ⟨k + 1, _, by have := HKN.out; omega, by go_num, HR.out⟩
            case measure => simp [intOf]; omega
        · obtain rfl : k = n := by omega
          obtain ⟨ov, cv, hvv⟩ := own_slice HOW.out
          have bo : Below wo.heap.size wo wr := d3.trans upB
          have ownR := own.below bo
          have hbR : Below W0.heap.size W0 wr := hb.trans (bo.mono hb.size)
          have ownV : wr.ownsRow W0.heap.size 2 1 vv (shownV ps rs k).length ((shownV ps rs k).flatMap intC) := by
            rw [flat_intC, shownV_len]
            exact owns_mono HOW.out (Nat.le_trans hb.size (Nat.le_trans d3.size (Nat.le_refl _)))
          subst hvv
          have hgl := (ownR.row.lt g rfl).1
          have HXX : Hid (OwnK W0.heap.size wr (.slice (some ⟨g, 0, none⟩) ms.length cp) ms ∧ wr.ownsRow W0.heap.size 2 1 (.slice ov k cv) (shownV ps rs k).length ((shownV ps rs k).flatMap intC) ∧ Below W0.heap.size W0 wr ∧ W0.heap.size ≤ g) := ⟨ownR, ownV, hbR, hgl⟩
          have HN6 : Hid (ms.length + 1 ≤ 6) := by have := HML.out; have := HFEW.out; rw [Hid]; omega
          have x0 := at_cell kP 0
          have x1 := at_cell kP 1
          have x2 := at_cell kP 2
          have x3 := at_cell kP 3
          have x4 := at_cell kP 4
          have hnk : ¬ (k : Int) < (k : Int) := by omega
          clear kP ow up own hb hb0 kSr kA3 d3 hz3 upB kAi kSi bo ownR hbR ownV hgl HKP HOW HU
          go_wp2_with (at_builtin; refine wpList_append_own _ rfl _ _ 24 rfl W0.heap.size 51 j0 (.agg #[.string ByteArray.empty, .int .i64 0, .slice none 0 0, .bool false, .int .i64 0]) 5 64 Tryz.underlying24 ji jz0 jz1 jz2 rfl (by decide) _ _ _ rfl (HXX.out.1.row.alloc _) ⟨wr.heap.size, 0, none⟩ 1 1 (pkC ⟨nm, (k : Int), .slice ov k cv, shownV ps rs k, fx, ep⟩) rfl rfl ?z1 ?z2 ?z3 ?z4 ?z5 ?_)
          case z1 => exact fun j u h => h
          case z2 => exact one_plain _ ⟨_, _, _, rfl⟩
          case z3 => have := HN6.out; unfold maxLen; omega
          case z4 => have := HN6.out; omega
          case z5 => have := HXX.out.2.2.1.size; simp at this ⊢; omega
          intro v'' w5 hown' hgrow' hnil'
          have own5 : w5.ownsRow W0.heap.size 51 5 v'' (ms ++ [(⟨nm, (k : Int), .slice ov k cv, shownV ps rs k, fx, ep⟩ : Pk)]).length ((ms ++ [(⟨nm, (k : Int), .slice ov k cv, shownV ps rs k, fx, ep⟩ : Pk)]).flatMap pkC) := by simpa using hown'
          obtain ⟨g', cp', hv'⟩ : ∃ g' cp', v'' = .slice (some ⟨g', 0, none⟩) (ms ++ [(⟨nm, (k : Int), .slice ov k cv, shownV ps rs k, fx, ep⟩ : Pk)]).length cp' := by
            rcases own5.2 with ⟨e, _⟩ | ⟨g', cp', _, e, _⟩
            · exact absurd e hnil'
            · exact ⟨g', cp', e⟩
          have row5 := HXX.out.1.row.alloc (.cells #[.string nm, .int .i64 (k : Int), .slice ov k cv, .bool fx, .int .i64 ep] 51)
          have mp5 : ∀ b ∈ ms ++ [(⟨nm, (k : Int), .slice ov k cv, shownV ps rs k, fx, ep⟩ : Pk)], w5.ownsRow W0.heap.size 2 1 b.m b.rs.length (b.rs.flatMap intC) := fun b hbm => by
            rcases List.mem_append.1 hbm with y | y
            · exact own_grown ((HXX.out.1.maps b y).alloc _) row5 (by decide) hgrow'
            · simp only [List.mem_singleton] at y
              subst y
              exact own_grown (HXX.out.2.1.alloc _) row5 (by decide) hgrow'
          have hb5 : Below W0.heap.size W0 w5 := (bw_alloc HXX.out.2.2.1).grown hgrow' (by have := HXX.out.2.2.1.size; simp at this ⊢; omega) (fun q hq => by cases hq; exact HXX.out.2.2.2)
          have hpl5 : (ms ++ [(⟨nm, (k : Int), .slice ov k cv, shownV ps rs k, fx, ep⟩ : Pk)]).map Pk.pv = ((bks.take (j + 1)).map Bk.pb).map (shownP ps) := by rw [HP.out.2, ← HP.out.1, List.map_append]; rfl
          subst hv'
          have HO : Hid _ := And.intro hpl5 (And.intro (OwnK.mk own5 mp5) hb5)
          clear hown' hgrow' hnil' own5 mp5 hb5 hpl5 row5 HXX HP x0 x1 x2 x3 x4
          go_wp2_with fail
          go_roundw
          case rel => exact ⟨j + 1, g', cp', _, by omega, by go_num, rfl, HO.out⟩
          case measure => simp [intOf]; omega
    · have htk : bks.take j = bks := List.take_of_length_le (by omega)
      rw [htk] at hpl
      have hnj : ¬ (j : Int) < (bks.length : Int) := by omega
      have HO : Hid _ := And.intro hpl (And.intro (own.mono (base' := w.heap.size) (by have := HD0.out.2; omega)) hb0)
      clear hpl own hb hb0 HC RM
      go_wp2_with fail
      go_ret
      exact ⟨_, rfl, ms, by rw [← List.map_map]; exact HO.out.1, HO.out.2⟩
end Go.Proofs.YtcefcglonooelaaGreatDoor

namespace Go.Proofs.YtcefcglonooelaaGreatDoor
open Go.RowKit

set_option linter.unusedVariables false

set_option maxRecDepth 100000


set_option maxHeartbeats 3200000 in
theorem l9Copy_any (v : Value) (bks : List Pk) (w : World) (hn : bks.length ≤ 1048576) (hr : ∀ b ∈ bks, b.rs.length ≤ 1048576) (r : ReadsK w.heap.size w v bks) :
    Calls Tryz.prog 42 #[v] w fun e w' => ∃ (v' : Value) (ms : List Pk), e = .returned v' ∧ ms.map Pk.pv = bks.map Pk.pv ∧ OwnK w.heap.size w' v' ms ∧ ApartK ms ∧ v' ≠ .slice none 0 0 ∧ Below w.heap.size w w' := by
  obtain ⟨i0, hi, hz0, hz1, hz2⟩ := info_parts Tryz.infoPlain
  have RM : Hid _ := r.maps
  have RL : Hid _ := hr
  obtain ⟨o, cap, rfl, hm, hc, -⟩ := r.row
  have HC : Hid _ := five_cellsK hc
  have own0 := own_noplains w
  have bd0 : Below w.heap.size w (w.alloc (.cells #[] 51)) := bw_alloc (Below.refl _ _)
  clear hc hm r hr
  go_enter Tryz.func42, Tryz.ntmps42
  go_wp2_with fail
  generalize w.alloc (.cells #[] 51) = W0 at own0 bd0 ⊢
  go_loopw [3, 4] (fun q i wr => ∃ (j g cp : Nat) (ms : List Pk), j ≤ bks.length ∧ i = .int .i64 j ∧ q = .slice (some ⟨g, 0, none⟩) ms.length cp ∧ ms.map Pk.pv = (bks.take j).map Pk.pv ∧ OwnK w.heap.size wr (.slice (some ⟨g, 0, none⟩) ms.length cp) ms ∧ ApartK ms ∧ Below w.heap.size w wr) (fun _ i _ => bks.length - (intOf i).toNat)
  case atStart => exact ⟨0, _, _, [], Nat.zero_le _, rfl, rfl, rfl, ⟨own0, fun b hb => by simp at hb⟩, List.Pairwise.nil, bd0⟩
  case round =>
    clear own0 bd0
    obtain ⟨j, g, cp, ms, hj, rfl, rfl, hpl, own, hap, hb⟩ := hrel
    have HAP : Hid _ := hap
    clear hap
    have HML : Hid (ms.length = j) := by have := congrArg List.length hpl; simp at this; rw [Hid]; omega
    by_cases hlt : j < bks.length
    · obtain ⟨g0, off, rfl, hg, a0, a1, a2, a3, a4⟩ := HC.out j hlt
      have rm := ((RM.out bks[j] (List.getElem_mem hlt)).below hb).mono hb.size
      have rl := RL.out bks[j] (List.getElem_mem hlt)
      have hpt : (bks.take (j + 1)).map Pk.pv = (bks.take j).map Pk.pv ++ [bks[j].pv] := by rw [List.take_succ_eq_append_getElem hlt, List.map_append]; rfl
      obtain ⟨x, hx⟩ : ∃ x, bks[j] = x := ⟨_, rfl⟩
      rw [hx] at a0 a1 a2 a3 a4 rm rl hpt
      clear hx HC RM RL
      obtain ⟨nm, sz, m, rs, fx, ep⟩ := x
      simp only at a0 a1 a2 a3 a4 rm rl
      obtain ⟨o', cap', hmm⟩ := rm.form
      subst hmm
      replace a0 := (hb.cell (p := ⟨g0, off + j * 5, none⟩) hg).trans a0
      replace a1 := (hb.cell (p := ⟨g0, off + j * 5 + 1, none⟩) hg).trans a1
      replace a2 := (hb.cell (p := ⟨g0, off + j * 5 + 2, none⟩) hg).trans a2
      replace a3 := (hb.cell (p := ⟨g0, off + j * 5 + 3, none⟩) hg).trans a3
      replace a4 := (hb.cell (p := ⟨g0, off + j * 5 + 4, none⟩) hg).trans a4
      have HP : Hid _ := And.intro hpl hpt
      obtain ⟨W1, hW1, k1, d1, z1⟩ := box1 wr #[.string nm, .int .i64 sz, .slice o' rs.length cap', .bool fx, .int .i64 ep] 51
      have RV : Hid (Reads W1.heap.size W1 (.slice o' rs.length cap') (rs.map (Value.int .i64))) := readsK_to ((rm.below d1).mono d1.size)
      have s2 := at_cell k1 2
      have K1 : Hid _ := And.intro k1 (And.intro d1 (And.intro z1 (And.intro own hb)))
      have i0' : (0 : Int) ≤ (j : Int) := by omega
      have i1' : (j : Int) < (bks.length : Int) := by omega
      have HW1 : Hid (W1 = _) := hW1
      clear hpl hpt rm k1 d1 z1 own hb hW1
      have HW1b := HW1.out
      subst HW1b
      clear HW1
      go_wp2_with fail
      refine (l1Copy_any _ rs _ rl RV.out).mono ?_
      rintro e w3 ⟨v', rfl, hown3, hnil3, b3⟩
      obtain ⟨k1, d1, z1, own, hb⟩ := K1.out
      obtain ⟨o3, cp3, hv3⟩ := own_slice hown3
      have d3 : Below wr.heap.size wr w3 := bw_call d1 b3
      have k3 := (b3.block _ (heap_lt k1)).trans k1
      have k4 := set_at k3 2 v'
      have own4 := owns_mono (own_box hown3 k3 (by decide) 2 v') (Nat.le_trans hb.size d1.size)
      have d4 : Below wr.heap.size wr (w3.setCell ⟨wr.heap.size, 2, none⟩ v') := bw_set d3 (p := ⟨wr.heap.size, 2, none⟩) (Nat.le_refl _) v'
      have q0 := at_cell k3 0
      have q1 := at_cell k3 1
      have q2 := at_cell k3 2
      have q3 := at_cell k3 3
      have q4 := at_cell k3 4
      have f2 := at_open k3 2
      have ownB := own.below d4
      have hb4 := bw_call hb d4
      have HNEW : Hid (∀ b ∈ ms, ∀ q, b.m.ownBlock = some q → v'.ownBlock ≠ some q) := fun b hbm q hq hq2 => by
        have h1 := ((own.maps b hbm).lt q hq).2
        have h2 := (hown3.lt q hq2).1
        omega
      have HX : Hid _ := And.intro own4 (And.intro ownB hb4)
      subst hv3
      clear hown3 hnil3 b3 k1 d1 z1 own hb d3 k3 k4 own4 d4 ownB hb4 K1 a0 a1 a2 a3 a4 RV s2
      have hown4 : (w3.setCell ⟨wr.heap.size, 2, none⟩ (.slice o3 rs.length cp3)).ownsRow w.heap.size 51 5 (.slice (some ⟨g, 0, none⟩) ms.length cp) ms.length (ms.flatMap pkC) := HX.out.2.1.row
      have HN6 : Hid (ms.length + 1 ≤ 1048576) := by have := HML.out; rw [Hid]; omega
      go_wp2_with (at_builtin; refine wpList_append_own _ rfl _ _ 24 rfl w.heap.size 51 i0 (.agg #[.string ByteArray.empty, .int .i64 0, .slice none 0 0, .bool false, .int .i64 0]) 5 64 Tryz.underlying24 hi hz0 hz1 hz2 rfl (by decide) _ _ _ rfl (hown4.alloc _) ⟨w3.heap.size, 0, none⟩ 1 1 (pkC ⟨nm, sz, .slice o3 rs.length cp3, rs, fx, ep⟩) rfl rfl ?c1 ?c2 ?c3 ?c4 ?c5 ?_)
      case c1 =>
        have h := new_five (w3.setCell ⟨wr.heap.size, 2, none⟩ (.slice o3 rs.length cp3)) ⟨nm, sz, .slice o3 rs.length cp3, [], fx, ep⟩ 51
        rw [show (w3.setCell ⟨wr.heap.size, 2, none⟩ (.slice o3 rs.length cp3)).heap.size = w3.heap.size by simp] at h
        exact h
      case c2 => exact one_plain _ ⟨_, _, _, rfl⟩
      case c3 => have := HN6.out; unfold maxLen; omega
      case c4 => have := HN6.out; omega
      case c5 => have := HX.out.2.2.size; simp at this ⊢; omega
      intro v'' w5 hown' hgrow' hnil'
      have own5 : w5.ownsRow w.heap.size 51 5 v'' (ms ++ [(⟨nm, sz, .slice o3 rs.length cp3, rs, fx, ep⟩ : Pk)]).length ((ms ++ [(⟨nm, sz, .slice o3 rs.length cp3, rs, fx, ep⟩ : Pk)]).flatMap pkC) := by simpa using hown'
      obtain ⟨g', cp', hv'⟩ : ∃ g' cp', v'' = .slice (some ⟨g', 0, none⟩) (ms ++ [(⟨nm, sz, .slice o3 rs.length cp3, rs, fx, ep⟩ : Pk)]).length cp' := by
        rcases own5.2 with ⟨e, _⟩ | ⟨g', cp', _, e, _⟩
        · exact absurd e hnil'
        · exact ⟨g', cp', e⟩
      have hgl := (hown4.lt g rfl).1
      have row5 := hown4.alloc (.cells #[.string nm, .int .i64 sz, .slice o3 rs.length cp3, .bool fx, .int .i64 ep] 51)
      have mp5 : ∀ b ∈ ms ++ [(⟨nm, sz, .slice o3 rs.length cp3, rs, fx, ep⟩ : Pk)], w5.ownsRow w.heap.size 2 1 b.m b.rs.length (b.rs.flatMap intC) := fun b hbm => by
        rcases List.mem_append.1 hbm with y | y
        · exact own_grown ((HX.out.2.1.maps b y).alloc _) row5 (by decide) hgrow'
        · simp only [List.mem_singleton] at y
          subst y
          have h4 : (w3.setCell ⟨wr.heap.size, 2, none⟩ (.slice o3 rs.length cp3)).ownsRow w.heap.size 2 1 (.slice o3 rs.length cp3) rs.length (rs.flatMap intC) := by
            rw [flat_intC]
            exact HX.out.1
          exact own_grown (h4.alloc _) row5 (by decide) hgrow'
      have hb5 : Below w.heap.size w w5 := (bw_alloc HX.out.2.2).grown hgrow' (by have := HX.out.2.2.size; simp at this ⊢; omega) (fun q hq => by cases hq; exact hgl)
      have hpl5 : (ms ++ [(⟨nm, sz, .slice o3 rs.length cp3, rs, fx, ep⟩ : Pk)]).map Pk.pv = (bks.take (j + 1)).map Pk.pv := by rw [HP.out.2, ← HP.out.1, List.map_append]; rfl
      subst hv'
      have HO : Hid _ := And.intro hpl5 (And.intro (OwnK.mk own5 mp5) (And.intro (ApartK.snoc HAP.out ⟨nm, sz, .slice o3 rs.length cp3, rs, fx, ep⟩ HNEW.out) hb5))
      clear hown' hgrow' hnil' own5 mp5 hb5 hpl5 row5 hown4 HX HP q0 q1 q2 q3 q4 f2
      go_wp2_with fail
      go_roundw
      case rel => exact ⟨j + 1, g', cp', _, by omega, by go_num, rfl, HO.out⟩
      case measure => simp [intOf]; omega
    · have htk : bks.take j = bks := List.take_of_length_le (by omega)
      rw [htk] at hpl
      have HO : Hid _ := And.intro hpl (And.intro own (And.intro HAP.out hb))
      clear hpl own hb HC RM RL HAP
      go_wp2_with fail
      go_ret
      exact ⟨_, ms, rfl, HO.out.1, HO.out.2.1, HO.out.2.2.1, by simp, HO.out.2.2.2⟩
end Go.Proofs.YtcefcglonooelaaGreatDoor

namespace Go.Proofs.YtcefcglonooelaaGreatDoor
open Go.RowKit

set_option linter.unusedVariables false

set_option maxRecDepth 100000


set_option maxHeartbeats 3200000 in
theorem l9Books_any (v : Value) (bks : List Pk) (w : World) (hn : bks.length ≤ 1048576) (r : ReadsK w.heap.size w v bks) :
    Calls Tryz.prog 35 #[v] w fun e w' => ∃ (v' : Value) (ms : List Bk), e = .returned v' ∧ ms.map Bk.pb = (bks.map Pk.pv).map Pv.pb ∧ OwnB w.heap.size w' v' ms ∧ v' ≠ .slice none 0 0 ∧ Below w.heap.size w w' := by
  obtain ⟨i0, hi, hz0, hz1, hz2⟩ := info_parts Tryz.infoBook
  obtain ⟨o, cap, rfl, hm, hc, -⟩ := r.row
  have HC : Hid _ := five_cellsK hc
  have own0 := own_nobooks w
  have bd0 : Below w.heap.size w (w.alloc (.cells #[] 87)) := bw_alloc (Below.refl _ _)
  clear hc hm r
  go_enter Tryz.func35, Tryz.ntmps35
  go_wp2_with fail
  generalize w.alloc (.cells #[] 87) = W0 at own0 bd0 ⊢
  go_loopw [3, 4] (fun q i wr => ∃ (j g cp : Nat) (ms : List Bk), j ≤ bks.length ∧ i = .int .i64 j ∧ q = .slice (some ⟨g, 0, none⟩) ms.length cp ∧ ms.map Bk.pb = ((bks.take j).map Pk.pv).map Pv.pb ∧ OwnB w.heap.size wr (.slice (some ⟨g, 0, none⟩) ms.length cp) ms ∧ Below w.heap.size w wr) (fun _ i _ => bks.length - (intOf i).toNat)
  case atStart => exact ⟨0, _, _, [], Nat.zero_le _, rfl, rfl, rfl, ⟨own0, fun b hb => by simp at hb⟩, bd0⟩
  case round =>
    clear own0 bd0
    obtain ⟨j, g, cp, ms, hj, rfl, rfl, hpl, own, hb⟩ := hrel
    have HML : Hid (ms.length = j) := by have := congrArg List.length hpl; simp at this; rw [Hid]; omega
    by_cases hlt : j < bks.length
    · obtain ⟨g0, off, rfl, hg, a0, a1, -, a3, a4⟩ := HC.out j hlt
      have hpt : ((bks.take (j + 1)).map Pk.pv).map Pv.pb = ((bks.take j).map Pk.pv).map Pv.pb ++ [bks[j].pv.pb] := by rw [List.take_succ_eq_append_getElem hlt, List.map_append, List.map_append]; rfl
      obtain ⟨x, hx⟩ : ∃ x, bks[j] = x := ⟨_, rfl⟩
      rw [hx] at a0 a1 a3 a4 hpt
      clear hx HC
      obtain ⟨nm, sz, m, rs, fx, ep⟩ := x
      simp only at a0 a1 a3 a4
      have HKeep : ∀ W', Below w.heap.size w W' → (W'.cell? ⟨g0, off + j * 5, none⟩ = some (.string nm) ∧ W'.cell? ⟨g0, off + j * 5 + 1, none⟩ = some (.int .i64 sz) ∧ W'.cell? ⟨g0, off + j * 5 + 3, none⟩ = some (.bool fx) ∧ W'.cell? ⟨g0, off + j * 5 + 4, none⟩ = some (.int .i64 ep)) := fun W' hw =>
        ⟨(hw.cell (p := ⟨g0, off + j * 5, none⟩) hg).trans a0, (hw.cell (p := ⟨g0, off + j * 5 + 1, none⟩) hg).trans a1, (hw.cell (p := ⟨g0, off + j * 5 + 3, none⟩) hg).trans a3, (hw.cell (p := ⟨g0, off + j * 5 + 4, none⟩) hg).trans a4⟩
      clear a0 a1 a3 a4
      have HP : Hid _ := And.intro hpl hpt
      have i0' : (0 : Int) ≤ (j : Int) := by omega
      have i1' : (j : Int) < (bks.length : Int) := by omega
      have HX : Hid _ := And.intro own hb
      have HN6 : Hid (ms.length + 1 ≤ 1048576) := by have := HML.out; rw [Hid]; omega
      clear hpl hpt own hb
      have HMX : Hid (ms.length + 1 ≤ maxLen) := by have := HN6.out; rw [Hid]; unfold maxLen; omega
      have HBY : Hid ((ms.length + 1) * 64 ≤ 140737488355328) := by have := HN6.out; rw [Hid]; omega
      have hsw : w.heap.size ≤ wr.heap.size := HX.out.2.size
      go_wp2_with fail
      go_region_held3 (fun w' => w'.cell? ⟨g0, off + j * 5, none⟩ = some (.string nm) ∧ w'.cell? ⟨g0, off + j * 5 + 1, none⟩ = some (.int .i64 sz) ∧ w'.cell? ⟨g0, off + j * 5 + 3, none⟩ = some (.bool fx) ∧ w'.cell? ⟨g0, off + j * 5 + 4, none⟩ = some (.int .i64 ep))
        ((refine HKeep _ ?_; repeat (first | exact HX.out.2 | exact hb5 | refine bw_drew ?_ | refine bw_alloc ?_)))
        ((refine step_append rfl (.tmp 12) (.tmp 34) 40 rfl w.heap.size 87 i0 (.agg #[.string ByteArray.empty, .int .i64 0, .slice none 0 0, .bool false, .int .i64 0]) 5 64 Tryz.underlying40 hi hz0 hz1 hz2 rfl (by decide) (.slice (some ⟨g, 0, none⟩) ms.length cp) ms.length (ms.flatMap bookC) (by simp [Act.eval]) (World.ownsRow.alloc (w := wr.drew) HX.out.1.row _) ⟨wr.heap.size, 0, none⟩ 1 1 (bookC ⟨nm, sz, .slice none 0 0, [], fx, ep⟩) (by simp [Act.eval]) rfl (new_five wr.drew ⟨nm, sz, .slice none 0 0, [], fx, ep⟩ _) (one_book _ ⟨_, _, _, rfl⟩) HMX.out HBY.out (by simp; omega) ?_; intro v'' w5 hown' hgrow' hnil'; have hb5 : Below w.heap.size w w5 := Below.grown (bw_alloc (bw_drew HX.out.2)) hgrow' (by simp; omega) (fun q hq => by cases hq; exact (HX.out.1.row.lt g rfl).1)))
      have own5 : w5.ownsRow w.heap.size 87 5 v'' (ms ++ [(⟨nm, sz, .slice none 0 0, [], fx, ep⟩ : Bk)]).length ((ms ++ [(⟨nm, sz, .slice none 0 0, [], fx, ep⟩ : Bk)]).flatMap bookC) := by simpa using hown'
      obtain ⟨g', cp', hv'⟩ : ∃ g' cp', v'' = .slice (some ⟨g', 0, none⟩) (ms ++ [(⟨nm, sz, .slice none 0 0, [], fx, ep⟩ : Bk)]).length cp' := by
        rcases own5.2 with ⟨e, _⟩ | ⟨g', cp', _, e, _⟩
        · exact absurd (hnil'.1 e).2 (by decide)
        · exact ⟨g', cp', e⟩
      have row5 := World.ownsRow.alloc (w := wr.drew) HX.out.1.row (.cells #[.string nm, .int .i64 sz, .slice none 0 0, .bool fx, .int .i64 ep] 87)
      have mp5 : ∀ b ∈ ms ++ [(⟨nm, sz, .slice none 0 0, [], fx, ep⟩ : Bk)], w5.ownsRow w.heap.size 129 3 b.m b.rs.length (b.rs.flatMap runC) := fun b hbm => by
        rcases List.mem_append.1 hbm with y | y
        · exact own_grown (World.ownsRow.alloc (w := wr.drew) (HX.out.1.maps b y) _) row5 (by decide) hgrow'
        · simp only [List.mem_singleton] at y
          subst y
          exact World.ownsRow_nil _ _ _ _
      have hpl5 : (ms ++ [(⟨nm, sz, .slice none 0 0, [], fx, ep⟩ : Bk)]).map Bk.pb = ((bks.take (j + 1)).map Pk.pv).map Pv.pb := by rw [HP.out.2, ← HP.out.1, List.map_append]; rfl
      subst hv'
      have HO : Hid _ := And.intro hpl5 (And.intro (OwnB.mk own5 mp5) hb5)
      clear hown' hgrow' hnil' own5 mp5 hb5 hpl5 row5 HX HP HKeep
      go_wp2_with fail
      go_roundw
      case rel => exact ⟨j + 1, g', cp', _, by omega, by go_num, rfl, HO.out⟩
      case measure => simp [intOf]; omega
    · have htk : bks.take j = bks := List.take_of_length_le (by omega)
      rw [htk] at hpl
      have HO : Hid _ := And.intro hpl (And.intro own hb)
      clear hpl own hb HC
      go_wp2_with fail
      go_ret
      exact ⟨_, ms, rfl, by first | exact HO.out.1 | (rw [← List.map_map]; exact HO.out.1), HO.out.2.1, by simp, HO.out.2.2⟩
end Go.Proofs.YtcefcglonooelaaGreatDoor

