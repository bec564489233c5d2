/-
  Contracts and plain laws, one chapter behind the other.
-/
import Derived.Deep.AppendLies
import Derived.Test.YtibhepekmihagaaGreatDoorM29
import Derived.Test.YtibhepekmihagaaGreatDoorM34
namespace Go.Proofs.YtibhepekmihagaaGreatDoor
open Go.RowKit

set_option linter.unusedVariables false

set_option linter.unusedSimpArgs false


set_option maxRecDepth 100000 in
set_option maxHeartbeats 6400000 in
theorem specNewWorld_any (n m : Int) (w : World) : Calls Tryz.prog 28 #[.int .i64 n, .int .i64 m] w (NwP w n m) := by
  obtain ⟨i0, hi, hz0, hz1, hz2⟩ := info_parts Tryz.infoHouse17
  obtain ⟨j0, ji, jz0, jz1, jz2⟩ := info_parts Tryz.infoI64
  obtain ⟨⟨pg, st, ok⟩, hn⟩ : ∃ x, newH n = x := ⟨_, rfl⟩
  have HN : Hid (newH n = (pg, st, ok)) := hn
  have HYES : Hid (ok = true → pg = n ∧ st.ts.length = 4 ∧ st.rs.length = 4) := fun h => by
    have h1 := newH_yes (n := n) (by rw [hn]; exact h)
    have h2 := newH_four (n := n) (by rw [hn]; exact h)
    rw [hn] at h1 h2
    exact ⟨h1, h2⟩
  have HL : Hid (st.s.cs.length ≤ 24 ∧ st.s.ps.length ≤ 24) := by
    have := newH_len n
    rw [hn] at this
    exact ⟨this.1, this.2.1⟩
  obtain ⟨W0, hW0, kR, d0, z0⟩ := box1 w #[.slice none 0 0, .int .i64 0, .slice none 0 0, .slice none 0 0, .slice none 0 0, .slice none 0 0] 71
  have HW0 : Hid (W0 = _) := hW0
  clear hW0 z0 hn
  go_enter Tryz.func28, Tryz.ntmps28
  go_upto_region 1 with fail
  rw [← HW0.out]
  clear HW0
  go_upto_region 2 with (go_at_call 7; refine (specNewHouse_nil n _ pg st ok HN.out).mono ?_; rintro e w1 ⟨lo, lc, o1, c1, o2, c2, o3, c3, o4, c4, o5, c5, rfl, OW, b1⟩)
  obtain ⟨W2, hW2, kT, d2, z2⟩ := box1 w1 #[.bool ok, .int .i64 pg, .slice lo 0 lc, .int .i64 0, .slice o1 st.s.cs.length c1, .slice o2 st.s.ps.length c2, .slice o3 0 c3, .slice o4 st.ts.length c4, .slice o5 st.rs.length c5] 33
  have HW2 : Hid (W2 = _) := hW2
  have B02 := bw_call b1 d2
  have kR2 := (B02.block _ (heap_lt kR)).trans kR
  have D2 := bw_call d0 B02
  have rT : RH0 W2.heap.size W2 st lo lc o1 c1 o2 c2 o3 c3 o4 c4 o5 c5 := (OW.reads.below d2).mono d2.size
  have lT := heap_lt kT
  have lR := heap_lt kR2
  have lRT : w.heap.size < w1.heap.size := Nat.lt_of_lt_of_le (heap_lt kR) b1.size
  rw [← HW2.out]
  clear HW2 hW2 z2 OW kR b1 d2 B02 d0
  cases ok
  · clear kT rT
    obtain ⟨V, hV⟩ : ∃ V : World, V = (((((W2.setCell ⟨w.heap.size, 0, none⟩ (.slice none 0 0)).setCell ⟨w.heap.size, 1, none⟩ (.int .i64 0)).setCell ⟨w.heap.size, 2, none⟩ (.slice none 0 0)).setCell ⟨w.heap.size, 3, none⟩ (.slice none 0 0)).setCell ⟨w.heap.size, 4, none⟩ (.slice none 0 0)).setCell ⟨w.heap.size, 5, none⟩ (.slice none 0 0) := ⟨_, rfl⟩
    have HV : Hid (V = _) := hV
    have HE : Hid _ := world_put kR2 (.slice none 0 0) (.int .i64 0) (.slice none 0 0) (.slice none 0 0) (.slice none 0 0) (.slice none 0 0) hV
    have HF : Hid (Below w.heap.size w V) := D2.trans (HE.out.2.toBelow D2.size (Nat.le_refl _))
    have HK : Hid (nwOk n m = false) := by rw [Hid, nwOk, HN.out]; rfl
    have p0 := at_cell kR2 0
    have p1 := at_cell kR2 1
    have p2 := at_cell kR2 2
    have p3 := at_cell kR2 3
    have p4 := at_cell kR2 4
    have p5 := at_cell kR2 5
    have f0 := at_open kR2 0
    have f1 := at_open kR2 1
    have f2 := at_open kR2 2
    have f3 := at_open kR2 3
    have f4 := at_open kR2 4
    have f5 := at_open kR2 5
    clear hV kR2
    go_wp2_with fail
    rw [← HV.out]
    refine bodyPost_ret (v := .tuple #[.agg #[.slice none 0 0, .int .i64 0, .slice none 0 0, .slice none 0 0, .slice none 0 0, .slice none 0 0], .bool false]) (by simp [results, Tryz.results28, go_sem, at_cell HE.out.1]) rfl ?_
    exact NwP.no HK.out HF.out
  · obtain ⟨hpg, hts, hrs⟩ := HYES.out rfl
    obtain rfl := hpg.symm
    have HTS : Hid (st.ts.length = 4 ∧ st.rs.length = 4) := ⟨hts, hrs⟩
    clear hts hrs HYES
    go_wp2_with fail
    refine (l1In_any m 1 4 _).mono ?_
    rintro e w3 ⟨rfl, hw3⟩
    obtain rfl := hw3.symm
    obtain ⟨bq, hbq⟩ : ∃ bq, (decide (1 ≤ m) && decide (m ≤ 4)) = bq := ⟨_, rfl⟩
    rw [hbq]
    have HBQ : Hid ((decide (1 ≤ m) && decide (m ≤ 4)) = bq) := hbq
    clear hbq
    cases bq
    · clear kT rT
      obtain ⟨V, hV⟩ : ∃ V : World, V = (((((W2.setCell ⟨w.heap.size, 0, none⟩ (.slice none 0 0)).setCell ⟨w.heap.size, 1, none⟩ (.int .i64 0)).setCell ⟨w.heap.size, 2, none⟩ (.slice none 0 0)).setCell ⟨w.heap.size, 3, none⟩ (.slice none 0 0)).setCell ⟨w.heap.size, 4, none⟩ (.slice none 0 0)).setCell ⟨w.heap.size, 5, none⟩ (.slice none 0 0) := ⟨_, rfl⟩
      have HV : Hid (V = _) := hV
      have HE : Hid _ := world_put kR2 (.slice none 0 0) (.int .i64 0) (.slice none 0 0) (.slice none 0 0) (.slice none 0 0) (.slice none 0 0) hV
      have HF : Hid (Below w.heap.size w V) := D2.trans (HE.out.2.toBelow D2.size (Nat.le_refl _))
      have HK : Hid (nwOk n m = false) := by rw [Hid, nwOk, HN.out, HBQ.out]; rfl
      have p0 := at_cell kR2 0
      have p1 := at_cell kR2 1
      have p2 := at_cell kR2 2
      have p3 := at_cell kR2 3
      have p4 := at_cell kR2 4
      have p5 := at_cell kR2 5
      have f0 := at_open kR2 0
      have f1 := at_open kR2 1
      have f2 := at_open kR2 2
      have f3 := at_open kR2 3
      have f4 := at_open kR2 4
      have f5 := at_open kR2 5
      clear hV kR2
      go_wp2_with fail
      rw [← HV.out]
      refine bodyPost_ret (v := .tuple #[.agg #[.slice none 0 0, .int .i64 0, .slice none 0 0, .slice none 0 0, .slice none 0 0, .slice none 0 0], .bool false]) (by simp [results, Tryz.results28, go_sem, at_cell HE.out.1]) rfl ?_
      exact NwP.no HK.out HF.out
    · have HOK : Hid (nwOk n m = true) := by rw [Hid, nwOk, HN.out, HBQ.out]; rfl
      have hm : 1 ≤ m ∧ m ≤ 4 := by have := HBQ.out; simpa using this
      obtain ⟨M, hmk0, hownC⟩ := made_clients 4 (by omega)
      have hmk : ∀ W : World, (Instr.makeSlice 68 (.int .i64 4) (.int .i64 4)).run Tryz.prog W = .ok (.slice (some ⟨W.heap.size, 0, none⟩) 4 4) (W.alloc (.cells M 152)) := fun W => by simpa using hmk0 W
      have ownC := hownC W2 W2.heap.size (Nat.le_refl _)
      have bC : Below W2.heap.size W2 (W2.alloc (.cells M 152)) := bw_alloc (Below.refl _ _)
      obtain ⟨W4, hW4, kB, d4, z4⟩ := box1 (W2.alloc (.cells M 152)) #[.slice none 0 0, .int .i64 1, .slice none 0 0, .slice none 0 0, .slice (some ⟨W2.heap.size, 0, none⟩) 4 4, .slice none 0 0] 71
      have HW4 : Hid (W4 = _) := hW4
      have hsz : (W2.alloc (.cells M 152)).heap.size = W2.heap.size + 1 := by simp
      rw [hsz] at kB
      have D4 : Below W2.heap.size W2 W4 := bC.trans (d4.mono bC.size)
      have ownC4 := owns_below ownC d4
      have hms0 : nwMs m 0 = [] := by simp [nwMs]
      have ow4 : OwnWd W2.heap.size W4 (.slice none 0 0) (.slice none 0 0) (.slice (some ⟨W2.heap.size, 0, none⟩) 4 4) [] (nwMs m 0) (List.replicate 4 Cl.zero) := by
        rw [hms0]
        exact ⟨OwnHs.nil _ _, ⟨owns_nil _ _ _ _⟩, by simpa using ownC4, fun x hx => by cases hx⟩
      have HS : Hid _ := And.intro kB (And.intro ow4 D4)
      clear hownC hmk0 ownC bC hW4 hsz d4 z4 ownC4 kB ow4 D4 hms0
      go_upto_region 5 with fail
      rw [← HW4.out]
      clear HW4 hmk
      go_wp2_with fail
      go_loopw [9] (fun i wr => ∃ (j : Nat) (hs : List Hw) (oh : Option Addr) (ch : Nat) (om : Option Addr) (cm : Nat), j ≤ 4 ∧ i = .int .i64 j ∧ wr.heap[W2.heap.size + 1]? = some (.cells #[.slice oh j ch, .int .i64 1, .slice om (nwMs m j).length cm, .slice none 0 0, .slice (some ⟨W2.heap.size, 0, none⟩) 4 4, .slice none 0 0] 71 (0, 0)) ∧ hs.map Hw.pl = (List.range j).map (nwAt n m st) ∧ OwnWd W2.heap.size wr (.slice oh j ch) (.slice om (nwMs m j).length cm) (.slice (some ⟨W2.heap.size, 0, none⟩) 4 4) hs (nwMs m j) (List.replicate 4 Cl.zero) ∧ Below W2.heap.size W2 wr) (fun i _ => 4 - (intOf i).toNat)
      case atStart => exact ⟨0, [], none, 0, none, 0, Nat.zero_le _, rfl, by rw [show (nwMs m 0).length = 0 by simp [nwMs]]; exact HS.out.1, rfl, by rw [show (nwMs m 0).length = 0 by simp [nwMs]]; exact HS.out.2.1, HS.out.2.2⟩
      case round =>
        obtain ⟨j, hs, oh, ch, om, cm, hj, rfl, kB0, hpl, ow0, hb⟩ := hrel
        have HP : Hid _ := hpl
        clear HS hpl
        by_cases hlt : j < 4
        · have i1 : (j : Int) < 4 := by omega
          obtain ⟨Wa, hWa, kA0, da, za⟩ := box1 wr #[.bool false, .int .i64 0, .slice none 0 0, .int .i64 0, .slice none 0 0, .slice none 0 0, .slice none 0 0, .slice none 0 0, .slice none 0 0] 33
          have HWa : Hid (Wa = _) := hWa
          have Da := bw_call hb da
          have kBa := (da.block _ (heap_lt kB0)).trans kB0
          have owa := ow0.below da
          have kTa := (Da.block _ lT).trans kT
          have lwr := heap_lt kA0
          have lB := heap_lt kB0
          have hspan := ow0.span
          clear hWa za kB0 ow0 da
          go_upto_region 9 with fail
          rw [← HWa.out]
          clear HWa
          by_cases hjm : (j : Int) < m
          · have rd := (rT.below Da).mono Da.size
            have p0 := at_cell kTa 0
            have p1 := at_cell kTa 1
            have p2 := at_cell kTa 2
            have p3 := at_cell kTa 3
            have p4 := at_cell kTa 4
            have p5 := at_cell kTa 5
            have p6 := at_cell kTa 6
            have p7 := at_cell kTa 7
            have p8 := at_cell kTa 8
            go_wp2_with fail
            refine (l13Copy_nil true n st lo lc o1 c1 o2 c2 o3 c3 o4 c4 o5 c5 _ HTS.out.1 HTS.out.2 (by have := HL.out.1; omega) (by have := HL.out.2; omega) rd).mono ?_
            rintro e wc ⟨lo', lc', o1', c1', o2', c2', o3', c3', o4', c4', o5', c5', rfl, oX, apX, bc⟩
            have kAc := (bc.block _ lwr).trans kA0
            have kBc := (bc.block _ (heap_lt kBa)).trans kBa
            obtain ⟨Wd, hWd⟩ : ∃ Wd : World, Wd = ((((((((wc.setCell ⟨wr.heap.size, 0, none⟩ (.bool true)).setCell ⟨wr.heap.size, 1, none⟩ (.int .i64 n)).setCell ⟨wr.heap.size, 2, none⟩ (.slice lo' 0 lc')).setCell ⟨wr.heap.size, 3, none⟩ (.int .i64 0)).setCell ⟨wr.heap.size, 4, none⟩ (.slice o1' st.s.cs.length c1')).setCell ⟨wr.heap.size, 5, none⟩ (.slice o2' st.s.ps.length c2')).setCell ⟨wr.heap.size, 6, none⟩ (.slice o3' 0 c3')).setCell ⟨wr.heap.size, 7, none⟩ (.slice o4' st.ts.length c4')).setCell ⟨wr.heap.size, 8, none⟩ (.slice o5' st.rs.length c5') := ⟨_, rfl⟩
            have HWd : Hid (Wd = _) := hWd
            obtain ⟨kAd, ud⟩ := house_put kAc (.bool true) (.int .i64 n) (.slice lo' 0 lc') (.int .i64 0) (.slice o1' st.s.cs.length c1') (.slice o2' st.s.ps.length c2') (.slice o3' 0 c3') (.slice o4' st.ts.length c4') (.slice o5' st.rs.length c5') hWd
            have hne : W2.heap.size + 1 ≠ wr.heap.size := by omega
            have kBd := (ud.block _ (heap_lt kBc) hne).trans kBc
            have Dc := bw_call Da bc
            have Dd : Below W2.heap.size W2 Wd := Dc.trans (ud.toBelow Dc.size (by have := hb.size; omega))
            have owd : OwnWd W2.heap.size Wd (.slice oh j ch) (.slice om (nwMs m j).length cm) (.slice (some ⟨W2.heap.size, 0, none⟩) 4 4) hs (nwMs m j) (List.replicate 4 Cl.zero) := (owa.below bc).only (onlyUp ud) (fun i hi e => by have := (hspan i hi).2; omega)
            have oY : Hw.Own (⟨true, n, 0, st, lo', lc', o1', c1', o2', c2', o3', c3', o4', c4', o5', c5'⟩ : Hw) Wa.heap.size Wd := Hw.Own.only oX (onlyUp ud) (fun i hi e => by have := (oX.span i hi).1; omega)
            have HOY : Hid _ := And.intro oY apX
            have hza : Wa.heap.size ≤ Wd.heap.size := Nat.le_trans bc.size ud.size
            have s0 := at_cell kAc 0
            have s1 := at_cell kAc 1
            have s2 := at_cell kAc 2
            have s3 := at_cell kAc 3
            have s4 := at_cell kAc 4
            have s5 := at_cell kAc 5
            have s6 := at_cell kAc 6
            have s7 := at_cell kAc 7
            have s8 := at_cell kAc 8
            have f0 := at_open kAc 0
            have f1 := at_open kAc 1
            have f2 := at_open kAc 2
            have f3 := at_open kAc 3
            have f4 := at_open kAc 4
            have f5 := at_open kAc 5
            have f6 := at_open kAc 6
            have f7 := at_open kAc 7
            have f8 := at_open kAc 8
            clear p0 p1 p2 p3 p4 p5 p6 p7 p8 rd hWd kAc kBc Dc bc ud owa oX oY apX kBa kA0 Da kTa
            go_upto_region 11 with fail
            rw [← HWd.out]
            clear HWd s0 s1 s2 s3 s4 s5 s6 s7 s8 f0 f1 f2 f3 f4 f5 f6 f7 f8
            have k2 := at_cell kBd 2
            obtain ⟨X, hX⟩ : ∃ X : World, X = Wd.alloc (.cells #[.int .i64 j] 2) := ⟨_, rfl⟩
            have HX : Hid (X = _) := hX
            have bX : Below Wd.heap.size Wd X := by rw [hX]; exact bw_alloc (Below.refl _ _)
            have owX := owd.below bX
            have kBX := (bX.block _ (heap_lt kBd)).trans kBd
            have hnew : ∀ (q : Nat) (u : Value), [Value.int .i64 j][q]? = some u → X.cell? ((⟨Wd.heap.size, 0, none⟩ : Addr).add q) = some u := by rw [hX]; exact new_one Wd (.int .i64 j) 2
            have hbase : W2.heap.size ≤ X.heap.size := Nat.le_trans Dd.size bX.size
            have hzd : Wd.heap.size ≤ X.heap.size := bX.size
            have HNW : Hid _ := hnew
            have kAX := (bX.block _ (heap_lt kAd)).trans kAd
            have HKK : Hid _ := And.intro kAX (And.intro kBX (And.intro owX (bw_call Dd bX)))
            have hmrow : X.ownsRow W2.heap.size 2 1 (.slice om (nwMs m j).length cm) (nwMs m j).length ((nwMs m j).map (Value.int .i64)) := owX.m.c
            have HMR : Hid _ := hmrow
            have hml0 : ∀ k, (Value.slice om (nwMs m j).length cm).ownBlock = some k → W2.heap.size ≤ k := fun k hk => (hmrow.lt k hk).1
            have hml : (nwMs m j).length ≤ 4 := by rw [nwMs_len]; omega
            have HOY2 : Hid _ := And.intro (Hw.Own.below HOY.out.1 bX) HOY.out.2
            clear hX bX owX kBX hnew kAX kAd kBd owd Dd hmrow HOY
            go_wp2_with (at_builtin; rw [← HX.out]; refine wpList_append_lies _ rfl _ _ 23 rfl W2.heap.size 2 j0 (.int .i64 0) 1 8 Tryz.underlying23 ji jz0 jz1 jz2 rfl (by decide) _ (nwMs m j).length ((nwMs m j).map (Value.int .i64)) rfl HMR.out ⟨Wd.heap.size, 0, none⟩ 1 1 [.int .i64 j] rfl rfl ?c1 ?c2 (by decide) ?c3 ?c4 ?c5 _ rfl ?_)
            case c1 => exact HNW.out
            case c2 => intro u hu; simp at hu; subst hu; rfl
            case c3 => unfold maxLen; omega
            case c4 => omega
            case c5 => exact hbase
            intro g7 cp7 w7 hown7 hgrow7 hat7 hlt7
            have o7 : Only (fun k => (Value.slice om (nwMs m j).length cm).ownBlock = some k) X w7 := only_grown hgrow7
            have kA7 := (o7.block _ (heap_lt HKK.out.1) (fun e => own_not_box HMR.out HKK.out.1 (by decide) e)).trans HKK.out.1
            have kB7 := (o7.block _ (heap_lt HKK.out.2.1) (fun e => own_not_box HMR.out HKK.out.2.1 (by decide) e)).trans HKK.out.2.1
            have ow7 := HKK.out.2.2.1.member (H := X.heap.size) j hown7 hgrow7 hat7 (Nat.le_refl _)
            have D7 : Below W2.heap.size W2 w7 := HKK.out.2.2.2.trans (o7.toBelow hbase hml0)
            have hvm : ∀ q, (Value.slice om (nwMs m j).length cm).ownBlock = some q → q < wr.heap.size := fun q hq => (hspan q (.inr (.inl hq))).2
            have oY7 : Hw.Own (⟨true, n, 0, st, lo', lc', o1', c1', o2', c2', o3', c3', o4', c4', o5', c5'⟩ : Hw) Wa.heap.size w7 := Hw.Own.only HOY2.out.1 o7 (fun i hi e => by have := (HOY2.out.1.span i hi).1; have := hvm i e; omega)
            have hym : ∀ i, Hw.In (⟨true, n, 0, st, lo', lc', o1', c1', o2', c2', o3', c3', o4', c4', o5', c5'⟩ : Hw) i → (Value.slice (some ⟨g7, 0, none⟩) ((nwMs m j).length + 1) cp7).ownBlock ≠ some i := fun i hi e => by
              have hgi : g7 = i := by cases e; rfl
              have s1 := HOY2.out.1.span i hi
              rcases hat7 with h | h
              · have := hvm g7 h; omega
              · omega
            obtain ⟨Wf, hWf⟩ : ∃ Wf : World, Wf = w7.setCell ⟨W2.heap.size + 1, 2, none⟩ (.slice (some ⟨g7, 0, none⟩) ((nwMs m j).length + 1) cp7) := ⟨_, rfl⟩
            have HWf : Hid (Wf = _) := hWf
            obtain ⟨kB, uf⟩ := world_members kB7 (.slice (some ⟨g7, 0, none⟩) ((nwMs m j).length + 1) cp7) hWf
            have kA := (uf.block _ (heap_lt kA7) (by omega)).trans kA7
            have ow := ow7.box kB7 uf
            have D : Below W2.heap.size W2 Wf := D7.trans (uf.toBelow D7.size (by omega))
            have hse : nwMs m j ++ [(j : Int)] = nwMs m (j + 1) := (nwMs_succ hjm).symm
            have hsl : Hid ((nwMs m j).length + 1 = (nwMs m (j + 1)).length) := by rw [Hid, ← hse, List.length_append]; rfl
            rw [hse] at ow
            have HY : Hid (Hw.Own (⟨true, n, 0, st, lo', lc', o1', c1', o2', c2', o3', c3', o4', c4', o5', c5'⟩ : Hw) W2.heap.size Wf ∧ Hw.Ap (⟨true, n, 0, st, lo', lc', o1', c1', o2', c2', o3', c3', o4', c4', o5', c5'⟩ : Hw) ∧ (∀ b ∈ hs, ∀ i, b.In i → ¬ Hw.In (⟨true, n, 0, st, lo', lc', o1', c1', o2', c2', o3', c3', o4', c4', o5', c5'⟩ : Hw) i) ∧ ∀ i, Hw.In (⟨true, n, 0, st, lo', lc', o1', c1', o2', c2', o3', c3', o4', c4', o5', c5'⟩ : Hw) i → (Value.slice (some ⟨g7, 0, none⟩) ((nwMs m j).length + 1) cp7).ownBlock ≠ some i) :=
              ⟨(Hw.Own.only oY7 (onlyUp uf) (fun i hi e => by have := (oY7.span i hi).1; omega)).mono (by have := hb.size; omega), HOY2.out.2, fun b hb' i h1 h2 => by have := (hspan i (.inl (.inr ⟨b, hb', h1⟩))).2; have := (HOY2.out.1.span i h2).1; omega, hym⟩
            have k2' := at_cell kB7 2
            have f2' := at_open kB7 2
            clear hown7 hgrow7 hat7 o7 kA7 kB7 ow7 D7 hvm oY7 hym hWf uf hse HKK HMR HOY2 HNW hbase hzd hml hml0 k2
            go_upto_region 12 with fail
            rw [← HWf.out]
            clear HWf k2' f2' HX X
            rw [hsl.out] at kB ow HY
            rw [hsl.out]
            clear hsl
            have szB := heap_lt kB
            have szA := heap_lt kA
            obtain ⟨X, hX⟩ : ∃ X : World, X = Wf.alloc (.cells #[.bool true, .int .i64 n, .slice lo' 0 lc', .int .i64 0, .slice o1' st.s.cs.length c1', .slice o2' st.s.ps.length c2', .slice o3' 0 c3', .slice o4' st.ts.length c4', .slice o5' st.rs.length c5'] 33) := ⟨_, rfl⟩
            have bX : Below Wf.heap.size Wf X := by rw [hX]; exact bw_alloc (Below.refl _ _)
            have owX := ow.below bX
            have kBX := (bX.block _ szB).trans kB
            have hnew : ∀ (q : Nat) (u : Value), (hwC (⟨true, n, 0, st, lo', lc', o1', c1', o2', c2', o3', c3', o4', c4', o5', c5'⟩ : Hw))[q]? = some u → X.cell? ((⟨Wf.heap.size, 0, none⟩ : Addr).add q) = some u := by rw [hX]; exact new_house Wf (⟨true, n, 0, st, lo', lc', o1', c1', o2', c2', o3', c3', o4', c4', o5', c5'⟩ : Hw) 33
            have hzX : Wf.heap.size ≤ X.heap.size := bX.size
            have hbase : W2.heap.size ≤ X.heap.size := Nat.le_trans D.size hzX
            have HX : Hid (X = _) := hX
            have hjl : hs.length = j := by have := congrArg List.length HP.out; simpa using this
            have HJL : Hid (hs.length = j) := hjl
            have hrow : X.ownsRow W2.heap.size 33 9 (.slice oh j ch) j (hs.flatMap hwC) := by have h := owX.h.row; rw [hjl] at h; exact h
            have HR : Hid _ := hrow
            have hrl0 : ∀ k, (Value.slice oh j ch).ownBlock = some k → W2.heap.size ≤ k := fun k hk => (hrow.lt k hk).1
            have p0 := at_cell kA 0
            have p1 := at_cell kA 1
            have p2 := at_cell kA 2
            have p3 := at_cell kA 3
            have p4 := at_cell kA 4
            have p5 := at_cell kA 5
            have p6 := at_cell kA 6
            have p7 := at_cell kA 7
            have p8 := at_cell kA 8
            have t0 : Wf.cell? ⟨W2.heap.size + 1, 0, none⟩ = _ := at_cell kB 0
            have f0 := at_open kBX 0
            have q0 : X.cell? ⟨W2.heap.size + 1, 0, none⟩ = _ := at_cell kBX 0
            have HY2 : Hid _ := And.intro (Hw.Own.below HY.out.1 bX) HY.out.2
            have HOW : Hid _ := owX
            have HBX : Hid _ := bw_call D bX
            have HKB : Hid _ := kBX
            have HNW : Hid _ := hnew
            have hj8 : j ≤ 3 := by omega
            clear hX kA kB ow owX kBX hnew bX hjl hrow HY D
            go_wp2_with (at_builtin; rw [← HX.out]; refine wpList_append_lies _ rfl _ _ 64 rfl W2.heap.size 33 i0 (.agg #[.bool false, .int .i64 0, .slice none 0 0, .int .i64 0, .slice none 0 0, .slice none 0 0, .slice none 0 0, .slice none 0 0, .slice none 0 0]) 9 168 Tryz.underlying64 hi hz0 hz1 hz2 rfl (by decide) _ j (hs.flatMap hwC) rfl HR.out ⟨Wf.heap.size, 0, none⟩ 1 1 (hwC (⟨true, n, 0, st, lo', lc', o1', c1', o2', c2', o3', c3', o4', c4', o5', c5'⟩ : Hw)) rfl rfl ?c1 ?c2 (by decide) ?c3 ?c4 ?c5 _ rfl ?_)
            try (case c1 => first | exact HNW.out | (intro q u hq; have h := HNW.out q u hq; rw [addr_add] at h; exact h))
            try (case c2 => exact one_house _)
            try (case c3 => unfold maxLen; omega)
            try (case c4 => omega)
            try (case c5 => exact hbase)
            intro g8 cp8 w8 hown8 hgrow8 hat8 hlt8
            have ow8 := HOW.out.house (⟨true, n, 0, st, lo', lc', o1', c1', o2', c2', o3', c3', o4', c4', o5', c5'⟩ : Hw) HY2.out.1 HY2.out.2.1 HY2.out.2.2.1 HY2.out.2.2.2 (by rw [HJL.out]; exact hown8) hgrow8
            have h8 : Only (fun k => (Value.slice oh j ch).ownBlock = some k) X w8 := only_grown hgrow8
            have kB8 := (h8.block _ (heap_lt HKB.out) (fun e => own_not_box HR.out HKB.out (by decide) e)).trans HKB.out
            have D8 : Below W2.heap.size W2 w8 := HBX.out.trans (h8.toBelow hbase hrl0)
            obtain ⟨Z, hZ⟩ : ∃ Z : World, Z = w8.setCell ⟨W2.heap.size + 1, 0, none⟩ (.slice (some ⟨g8, 0, none⟩) (j + 1) cp8) := ⟨_, rfl⟩
            have HZ : Hid (Z = _) := hZ
            have HE8 : Hid _ := world_houses kB8 (.slice (some ⟨g8, 0, none⟩) (j + 1) cp8) hZ
            have owZ := ow8.box kB8 HE8.out.2
            have DZ : Below W2.heap.size W2 Z := D8.trans (HE8.out.2.toBelow D8.size (by omega))
            have plZ : (hs ++ [(⟨true, n, 0, st, lo', lc', o1', c1', o2', c2', o3', c3', o4', c4', o5', c5'⟩ : Hw)]).map Hw.pl = (List.range (j + 1)).map (nwAt n m st) := by
              rw [List.map_append, HP.out, List.range_succ, List.map_append]
              show _ ++ [Hw.pl (⟨true, n, 0, st, lo', lc', o1', c1', o2', c2', o3', c3', o4', c4', o5', c5'⟩ : Hw)] = _ ++ [nwAt n m st j]
              rw [show nwAt n m st j = Hw.pl (⟨true, n, 0, st, lo', lc', o1', c1', o2', c2', o3', c3', o4', c4', o5', c5'⟩ : Hw) from if_pos hjm]
            have HF : Hid _ := And.intro HE8.out.1 (And.intro plZ (And.intro owZ DZ))
            have r0 := at_cell kB8 0
            have r0' := at_open kB8 0
            clear hown8 hgrow8 hat8 ow8 h8 kB8 D8 hZ owZ DZ plZ HR HY2 HOW HBX HKB HNW hrl0 p0 p1 p2 p3 p4 p5 p6 p7 p8 t0 f0 q0
            go_wp2_with fail
            rw [← HZ.out]
            clear HZ r0 r0'
            go_roundw
            case rel => exact ⟨j + 1, _, _, _, _, _, by omega, by go_num, HF.out⟩
            case measure => simp [intOf]; omega
          · have hme : nwMs m (j + 1) = nwMs m j := nwMs_stay hjm
            have HY : Hid (Hw.Own Hw.zero W2.heap.size Wa ∧ Hw.Ap Hw.zero ∧ (∀ b ∈ hs, ∀ i, b.In i → ¬ Hw.In Hw.zero i) ∧ ∀ i, Hw.In Hw.zero i → (Value.slice om (nwMs m (j + 1)).length cm).ownBlock ≠ some i) :=
              ⟨Hw.Own.zero _ _, fun g h => (by rcases h with h | h <;> cases h), fun b _ i _ h => Hw.zero_in i h, fun i h => absurd h (Hw.zero_in i)⟩
            have kA := kA0
            have kB := kBa
            have ow := owa
            have D := Da
            rw [← hme] at kB ow
            clear hme kA0 kBa owa Da kTa
            go_upto_region 12 with fail
            have szB := heap_lt kB
            have szA := heap_lt kA
            obtain ⟨X, hX⟩ : ∃ X : World, X = Wa.alloc (.cells #[.bool false, .int .i64 0, .slice none 0 0, .int .i64 0, .slice none 0 0, .slice none 0 0, .slice none 0 0, .slice none 0 0, .slice none 0 0] 33) := ⟨_, rfl⟩
            have bX : Below Wa.heap.size Wa X := by rw [hX]; exact bw_alloc (Below.refl _ _)
            have owX := ow.below bX
            have kBX := (bX.block _ szB).trans kB
            have hnew : ∀ (q : Nat) (u : Value), (hwC Hw.zero)[q]? = some u → X.cell? ((⟨Wa.heap.size, 0, none⟩ : Addr).add q) = some u := by rw [hX]; exact new_house Wa Hw.zero 33
            have hzX : Wa.heap.size ≤ X.heap.size := bX.size
            have hbase : W2.heap.size ≤ X.heap.size := Nat.le_trans D.size hzX
            have HX : Hid (X = _) := hX
            have hjl : hs.length = j := by have := congrArg List.length HP.out; simpa using this
            have HJL : Hid (hs.length = j) := hjl
            have hrow : X.ownsRow W2.heap.size 33 9 (.slice oh j ch) j (hs.flatMap hwC) := by have h := owX.h.row; rw [hjl] at h; exact h
            have HR : Hid _ := hrow
            have hrl0 : ∀ k, (Value.slice oh j ch).ownBlock = some k → W2.heap.size ≤ k := fun k hk => (hrow.lt k hk).1
            have p0 := at_cell kA 0
            have p1 := at_cell kA 1
            have p2 := at_cell kA 2
            have p3 := at_cell kA 3
            have p4 := at_cell kA 4
            have p5 := at_cell kA 5
            have p6 := at_cell kA 6
            have p7 := at_cell kA 7
            have p8 := at_cell kA 8
            have t0 : Wa.cell? ⟨W2.heap.size + 1, 0, none⟩ = _ := at_cell kB 0
            have f0 := at_open kBX 0
            have q0 : X.cell? ⟨W2.heap.size + 1, 0, none⟩ = _ := at_cell kBX 0
            have HY2 : Hid _ := And.intro (Hw.Own.below HY.out.1 bX) HY.out.2
            have HOW : Hid _ := owX
            have HBX : Hid _ := bw_call D bX
            have HKB : Hid _ := kBX
            have HNW : Hid _ := hnew
            have hj8 : j ≤ 3 := by omega
            clear hX kA kB ow owX kBX hnew bX hjl hrow HY D
            go_wp2_with (at_builtin; rw [← HX.out]; refine wpList_append_lies _ rfl _ _ 64 rfl W2.heap.size 33 i0 (.agg #[.bool false, .int .i64 0, .slice none 0 0, .int .i64 0, .slice none 0 0, .slice none 0 0, .slice none 0 0, .slice none 0 0, .slice none 0 0]) 9 168 Tryz.underlying64 hi hz0 hz1 hz2 rfl (by decide) _ j (hs.flatMap hwC) rfl HR.out ⟨Wa.heap.size, 0, none⟩ 1 1 (hwC Hw.zero) rfl rfl ?c1 ?c2 (by decide) ?c3 ?c4 ?c5 _ rfl ?_)
            try (case c1 => first | exact HNW.out | (intro q u hq; have h := HNW.out q u hq; rw [addr_add] at h; exact h))
            try (case c2 => exact one_house _)
            try (case c3 => unfold maxLen; omega)
            try (case c4 => omega)
            try (case c5 => exact hbase)
            intro g8 cp8 w8 hown8 hgrow8 hat8 hlt8
            have ow8 := HOW.out.house Hw.zero HY2.out.1 HY2.out.2.1 HY2.out.2.2.1 HY2.out.2.2.2 (by rw [HJL.out]; exact hown8) hgrow8
            have h8 : Only (fun k => (Value.slice oh j ch).ownBlock = some k) X w8 := only_grown hgrow8
            have kB8 := (h8.block _ (heap_lt HKB.out) (fun e => own_not_box HR.out HKB.out (by decide) e)).trans HKB.out
            have D8 : Below W2.heap.size W2 w8 := HBX.out.trans (h8.toBelow hbase hrl0)
            obtain ⟨Z, hZ⟩ : ∃ Z : World, Z = w8.setCell ⟨W2.heap.size + 1, 0, none⟩ (.slice (some ⟨g8, 0, none⟩) (j + 1) cp8) := ⟨_, rfl⟩
            have HZ : Hid (Z = _) := hZ
            have HE8 : Hid _ := world_houses kB8 (.slice (some ⟨g8, 0, none⟩) (j + 1) cp8) hZ
            have owZ := ow8.box kB8 HE8.out.2
            have DZ : Below W2.heap.size W2 Z := D8.trans (HE8.out.2.toBelow D8.size (by omega))
            have plZ : (hs ++ [Hw.zero]).map Hw.pl = (List.range (j + 1)).map (nwAt n m st) := by
              rw [List.map_append, HP.out, List.range_succ, List.map_append]
              show _ ++ [Hw.pl Hw.zero] = _ ++ [nwAt n m st j]
              rw [show nwAt n m st j = Hw.pl Hw.zero from if_neg (by omega)]
            have HF : Hid _ := And.intro HE8.out.1 (And.intro plZ (And.intro owZ DZ))
            have r0 := at_cell kB8 0
            have r0' := at_open kB8 0
            clear hown8 hgrow8 hat8 ow8 h8 kB8 D8 hZ owZ DZ plZ HR HY2 HOW HBX HKB HNW hrl0 p0 p1 p2 p3 p4 p5 p6 p7 p8 t0 f0 q0
            go_wp2_with fail
            rw [← HZ.out]
            clear HZ r0 r0'
            go_roundw
            case rel => exact ⟨j + 1, _, _, _, _, _, by omega, by go_num, HF.out⟩
            case measure => simp [intOf]; omega
        · obtain rfl : j = 4 := by omega
          have kR5 := (hb.block _ lR).trans kR2
          have D5 := D2.trans (hb.mono D2.size)
          have szB := heap_lt kB0
          obtain ⟨V, hV⟩ : ∃ V : World, V = (((((wr.setCell ⟨w.heap.size, 0, none⟩ (.slice oh 4 ch)).setCell ⟨w.heap.size, 1, none⟩ (.int .i64 1)).setCell ⟨w.heap.size, 2, none⟩ (.slice om (nwMs m 4).length cm)).setCell ⟨w.heap.size, 3, none⟩ (.slice none 0 0)).setCell ⟨w.heap.size, 4, none⟩ (.slice (some ⟨W2.heap.size, 0, none⟩) 4 4)).setCell ⟨w.heap.size, 5, none⟩ (.slice none 0 0) := ⟨_, rfl⟩
          have HV : Hid (V = _) := hV
          have HE : Hid _ := world_put kR5 (.slice oh 4 ch) (.int .i64 1) (.slice om (nwMs m 4).length cm) (.slice none 0 0) (.slice (some ⟨W2.heap.size, 0, none⟩) 4 4) (.slice none 0 0) hV
          have owV := (ow0.upto HE.out.2 (by omega)).mono D2.size
          have HF : Hid _ := And.intro owV (D5.trans (HE.out.2.toBelow D5.size (Nat.le_refl _)))
          have p0 := at_cell kR5 0
          have f0 := at_open kR5 0
          have q0 := at_cell kB0 0
          have p1 := at_cell kR5 1
          have f1 := at_open kR5 1
          have q1 := at_cell kB0 1
          have p2 := at_cell kR5 2
          have f2 := at_open kR5 2
          have q2 := at_cell kB0 2
          have p3 := at_cell kR5 3
          have f3 := at_open kR5 3
          have q3 := at_cell kB0 3
          have p4 := at_cell kR5 4
          have f4 := at_open kR5 4
          have q4 := at_cell kB0 4
          have p5 := at_cell kR5 5
          have f5 := at_open kR5 5
          have q5 := at_cell kB0 5
          clear hV kR5 D5 owV kB0 ow0 szB
          go_wp2_with fail
          rw [← HV.out]
          refine bodyPost_ret (v := .tuple #[.agg #[.slice oh 4 ch, .int .i64 1, .slice om (nwMs m 4).length cm, .slice none 0 0, .slice (some ⟨W2.heap.size, 0, none⟩) 4 4, .slice none 0 0], .bool true]) (by simp [results, Tryz.results28, go_sem, at_cell HE.out.1]) rfl ?_
          exact NwP.yes HOK.out HF.out.1 (by rw [HN.out]; exact HP.out) HF.out.2
end Go.Proofs.YtibhepekmihagaaGreatDoor

