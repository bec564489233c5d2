import Derived.Test.YtcefcglonooelaaGreatDoorA15
import Derived.Test.YtcefcglonooelaaGreatDoorA16
import Derived.Test.YtcefcglonooelaaGreatDoorA24
import Derived.Test.YtcefcglonooelaaGreatDoorA25
import Derived.Test.YtcefcglonooelaaGreatDoorA26
import Derived.Test.YtcefcglonooelaaGreatDoorA31
namespace Go.Proofs.YtcefcglonooelaaGreatDoor
open Go.RowKit
set_option linter.unusedVariables false
set_option maxRecDepth 100000 in
set_option maxHeartbeats 6400000 in
theorem drawOp8_any (c : Nat) (x : Option Addr) (len cap base : Nat) (vb : Value) (bks : List Bk) (w : World) (hc : Cur w c x len cap) (hcb : c < base) (hl : bks.length <= 1048576) (hbf : ∀ b ∈ bks,b.nm.size <= 5 /\ -1 <= b.ep /\ b.ep <= 1001) (own : OwnB base w vb bks) :
    Calls Tryz.prog 34 #[.pointer (some ⟨c,0,none⟩),vb] w fun e w' => ∃ o : Oq,e = .returned (.agg #[.int .i64 o.k,.string o.nm,.string o.ot,.int .i64 o.at_,.int .i64 o.va,.int .i64 o.ep]) /\ OpFit o /\ Upto c w w' /\ Cur w' c x len cap := by
  have hlt := hc.lt;obtain ⟨ob,kb,rfl⟩ := own_slice own.row;obtain ⟨W0,hW0,kR,d0,z0⟩ := box1 w #[.int .i64 0,.string ⟨#[]⟩,.string ⟨#[]⟩,.int .i64 0,.int .i64 0,.int .i64 0] 26;have kc : Cur W0 c x len cap := hc.below d0;have u : Upto c w W0 := Upto.ofBelow d0;have HW0 : Hid (W0 = _) := hW0;have sR : w.heap.size < W0.heap.size := by omega
  have HOWN : Hid (OwnB base w (.slice ob bks.length kb) bks) := own;have HBF : Hid (∀ b ∈ bks,b.nm.size <= 5 /\ -1 <= b.ep /\ b.ep <= 1001) := hbf;clear hW0 hc d0 z0 own hbf
  go_enter Tryz.func34,Tryz.ntmps34
  go_wp2_with fail
  rw [<- HW0.out];clear HW0;refine (draw7Any_any c x len cap _ kc).mono ?_;rintro e w2 ⟨o,rfl,fit,u1,k2⟩;obtain ⟨k,nm,ot,at_,va,ep⟩ := o;replace kR := (u1.block _ sR (by omega)).trans kR;replace sR := Nat.lt_of_lt_of_le sR u1.size;replace u := u.trans u1;clear u1 kc;simp only;have bP : Below w2.heap.size w2 (w2.alloc (.cells #[.int .i64 k,.string nm,.string ot,.int .i64 at_,.int .i64 va,.int .i64 ep] 26)) := bw_alloc (Below.refl _ _);have kB := heap_alloc_new w2 (.cells #[.int .i64 k,.string nm,.string ot,.int .i64 at_,.int .i64 va,.int .i64 ep] 26)
  have st : OpSt c x len cap w2.heap.size w (w2.alloc (.cells #[.int .i64 k,.string nm,.string ot,.int .i64 at_,.int .i64 va,.int .i64 ep] 26)) ⟨k,nm,ot,at_,va,ep⟩ := ⟨kB,(bP.block _ sR).trans kR,k2.below bP,u.below bP,hlt,sR,fit⟩
  clear bP kB kR u k2 fit
  go_upto_region 2 with fail
  generalize w2.alloc (.cells #[.int .i64 k,.string nm,.string ot,.int .i64 at_,.int .i64 va,.int .i64 ep] 26) = W3 at *;generalize w2.heap.size = nB at *;obtain ⟨p0,p1,p2,p3,p4,p5⟩ := c6 st.kB;simp only at p0 p1 p2 p3 p4 p5;rcases Nat.eq_zero_or_pos bks.length with h0 | hpos
  · have h0' : ¬ (0 : Int) < (bks.length : Int) := by omega
    have q0 := at_cell st.kR 0;have g0 := at_open st.kR 0;have q1 := at_cell st.kR 1;have g1 := at_open st.kR 1;have q2 := at_cell st.kR 2;have g2 := at_open st.kR 2;have q3 := at_cell st.kR 3;have g3 := at_open st.kR 3;have q4 := at_cell st.kR 4;have g4 := at_open st.kR 4;have q5 := at_cell st.kR 5;have g5 := at_open st.kR 5;have HS : Hid _ := st.fin;have HF : Hid _ := st.fit;simp only at HS HF;clear st
    go_wp2_with fail
    exact bodyPost_ret (v := .agg #[.int .i64 k,.string nm,.string ot,.int .i64 at_,.int .i64 va,.int .i64 ep]) (by simp [results,Tryz.results34,go_sem,at_cell HS.out.1]) rfl ⟨⟨k,nm,ot,at_,va,ep⟩,rfl,HF.out,HS.out.2.1,HS.out.2.2⟩
  have h0' : (0 : Int) < (bks.length : Int) := by omega
  by_cases hk1 : k = 1
  · subst hk1
    have q0 := at_cell st.kR 0;have g0 := at_open st.kR 0;have q1 := at_cell st.kR 1;have g1 := at_open st.kR 1;have q2 := at_cell st.kR 2;have g2 := at_open st.kR 2;have q3 := at_cell st.kR 3;have g3 := at_open st.kR 3;have q4 := at_cell st.kR 4;have g4 := at_open st.kR 4;have q5 := at_cell st.kR 5;have g5 := at_open st.kR 5;have HS : Hid _ := st.fin;have HF : Hid _ := st.fit;simp only at HS HF;clear st
    go_wp2_with fail
    exact bodyPost_ret (v := .agg #[.int .i64 1,.string nm,.string ot,.int .i64 at_,.int .i64 va,.int .i64 ep]) (by simp [results,Tryz.results34,go_sem,at_cell HS.out.1]) rfl ⟨⟨1,nm,ot,at_,va,ep⟩,rfl,HF.out,HS.out.2.1,HS.out.2.2⟩
  have hk1' : (k != 1) = true := by simpa using hk1
  go_wp2_with fail
  refine (once_any c x len cap 4 _ (by omega) st.kc).mono ?_;rintro e w4 ⟨y,rfl,u1,k1⟩;replace st := st.step u1 k1;clear u1 k1 p0 p1 p2 p3 p4 p5;obtain ⟨p0,p1,p2,p3,p4,p5⟩ := c6 st.kB;simp only at p0 p1 p2 p3 p4 p5;cases y
  rotate_left
  · skip
    have q0 := at_cell st.kR 0;have g0 := at_open st.kR 0;have q1 := at_cell st.kR 1;have g1 := at_open st.kR 1;have q2 := at_cell st.kR 2;have g2 := at_open st.kR 2;have q3 := at_cell st.kR 3;have g3 := at_open st.kR 3;have q4 := at_cell st.kR 4;have g4 := at_open st.kR 4;have q5 := at_cell st.kR 5;have g5 := at_open st.kR 5;have HS : Hid _ := st.fin;have HF : Hid _ := st.fit;simp only at HS HF;clear st
    go_wp2_with fail
    exact bodyPost_ret (v := .agg #[.int .i64 k,.string nm,.string ot,.int .i64 at_,.int .i64 va,.int .i64 ep]) (by simp [results,Tryz.results34,go_sem,at_cell HS.out.1]) rfl ⟨⟨k,nm,ot,at_,va,ep⟩,rfl,HF.out,HS.out.2.1,HS.out.2.2⟩
  go_wp2_with fail
  refine (below_any c x len cap (bks.length : Int) _ (by omega) st.kc).mono ?_;rintro e w5 ⟨y,rfl,hy,u1,k1⟩;have hyn := hy.2.1 h0';obtain ⟨q,hq⟩ := Int.eq_ofNat_of_zero_le hy.1;subst hq;have hlq : q < bks.length := by omega
  replace st := st.step u1 k1;have own5 := HOWN.out.upto st.u hcb;obtain ⟨gb,cpb,hvb⟩ := own5.at q hlq;cases hvb;obtain ⟨⟨a0,a1,a2,a3,a4⟩,-⟩ := own_five own5.row q hlq;have hm5 := own5.maps _ (List.getElem_mem hlq);have hbq := HBF.out _ (List.getElem_mem hlq)
  obtain ⟨xb,hx⟩ : ∃ xb,bks[q]'hlq = xb := ⟨_,rfl⟩
  rw [hx] at a0 a1 a2 a3 a4 hm5 hbq;clear hx;obtain ⟨bn,bs,bm,br,bx,be⟩ := xb;simp only at a0 a1 a2 a3 a4 hm5 hbq;obtain ⟨om,cm,hmm⟩ := own_slice hm5;subst hmm;have sK := heap_alloc_new w5 (.cells #[.string bn,.int .i64 bs,.slice om br.length cm,.bool bx,.int .i64 be] 87);have st6 := st.alloc (.cells #[.string bn,.int .i64 bs,.slice om br.length cm,.bool bx,.int .i64 be] 87);have hnB5 : nB < w5.heap.size := heap_lt st.kB;have hcw5 : c < w5.heap.size := st.kc.lt
  have fit6 : OpFit ⟨k,bn,ot,at_,va,ep⟩ := ⟨st.fit.k,hbq.1,st.fit.ot,st.fit.at_,st.fit.va,st.fit.ep⟩
  have fit7 : OpFit ⟨k,bn,ot,at_,va,be⟩ := ⟨st.fit.k,hbq.1,st.fit.ot,st.fit.at_,st.fit.va,hbq.2⟩
  have st7 := st6.put 1 (.string bn) ⟨k,bn,ot,at_,va,ep⟩ rfl fit6;have b0 := at_cell sK 0;have r1 := at_cell st6.kB 1;have f1 := at_open st6.kB 1;have sK7 := (Below.heap_setCell (w5.alloc (.cells #[.string bn,.int .i64 bs,.slice om br.length cm,.bool bx,.int .i64 be] 87)) ⟨nB,1,none⟩ (.string bn) w5.heap.size (by show w5.heap.size ≠ nB;omega)).trans sK;have iq0 : (0 : Int) <= (q : Int) := by omega
  have iq1 : (q : Int) < (bks.length : Int) := by omega
  clear p0 p1 p2 p3 p4 p5 u1 k1 hy hyn hm5;obtain ⟨p0,p1,p2,p3,p4,p5⟩ := c6 st7.kB;simp only at p0 p1 p2 p3 p4 p5 r1 f1
  have HB5 : Hid (bn.size <= maxLen /\ ot.size <= maxLen) := ⟨by have := hbq.1;unfold maxLen;omega,by have := st.fit.ot;simp only at this;unfold maxLen;omega⟩
  clear own5
  go_upto_region 5 with fail
  have hW6 : w5.heap.size < (w5.alloc (.cells #[.string bn,.int .i64 bs,.slice om br.length cm,.bool bx,.int .i64 be] 87)).heap.size := by simp
  generalize w5.alloc (.cells #[.string bn,.int .i64 bs,.slice om br.length cm,.bool bx,.int .i64 be] 87) = W6 at *;clear a0 a1 a2 a3 a4
  go_upto_region 6 with fail
  generalize W6.setCell ⟨nB,1,none⟩ (.string bn) = W7 at *;clear b0 r1 f1 sK st st6;by_cases hep : 0 < ep
  · skip
    have B10 : Below W7.heap.size W7 ((W7.alloc (.cells #[.int .i64 k,.string bn,.string ot,.int .i64 at_,.int .i64 va,.int .i64 ep] 26)).setCell ⟨W7.heap.size,5,none⟩ (.int .i64 be)) := bw_set (bw_alloc (Below.refl _ _)) (Nat.le_refl _) _;have sX := heap_alloc_new W7 (.cells #[.int .i64 k,.string bn,.string ot,.int .i64 at_,.int .i64 va,.int .i64 ep] 26);have sXs := set_at sX 5 (.int .i64 be);have sK9 := (Below.heap_alloc W7 (.cells #[.int .i64 k,.string bn,.string ot,.int .i64 at_,.int .i64 va,.int .i64 ep] 26) _ (heap_lt sK7)).trans sK7;have st10 := st7.step (Upto.ofBelow B10) (st7.kc.below B10);have bk4 := at_cell sK9 4;have x5 := at_cell sX 5;have xf := at_open sX 5;obtain ⟨y0,y1,y2,y3,y4,y5⟩ := c6 sXs
    go_upto_region 8 with fail
    generalize W7.alloc (.cells #[.int .i64 k,.string bn,.string ot,.int .i64 at_,.int .i64 va,.int .i64 ep] 26) = W9 at *;clear p0 p1 p2 p3 p4 p5
    go_upto_region 9 with fail
    generalize W9.setCell ⟨W7.heap.size,5,none⟩ (.int .i64 be) = W10 at *;clear B10 sX sK9 bk4 x5 xf
    go_wp2_with fail
    refine (specOpOk_any k bn ot at_ va be _ HB5.out.1 HB5.out.2).mono ?_;rintro e w11 ⟨rfl,b11⟩
    obtain ⟨okv,hok⟩ : ∃ b,opOk ⟨k,bn,ot,at_,va,be⟩ = b := ⟨_,rfl⟩
    rw [hok];clear hok;have st11 := st10.step (Upto.ofBelow b11) (st10.kc.below b11);have sX11 := (b11.block _ (heap_lt sXs)).trans sXs;clear y0 y1 y2 y3 y4 y5 b11 st10 sXs;obtain ⟨p0,p1,p2,p3,p4,p5⟩ := c6 st11.kB;simp only at p0 p1 p2 p3 p4 p5;cases okv
    · skip
      have q0 := at_cell st11.kR 0;have g0 := at_open st11.kR 0;have q1 := at_cell st11.kR 1;have g1 := at_open st11.kR 1;have q2 := at_cell st11.kR 2;have g2 := at_open st11.kR 2;have q3 := at_cell st11.kR 3;have g3 := at_open st11.kR 3;have q4 := at_cell st11.kR 4;have g4 := at_open st11.kR 4;have q5 := at_cell st11.kR 5;have g5 := at_open st11.kR 5;have HS : Hid _ := st11.fin;have HF : Hid _ := st11.fit;simp only at HS HF;clear st11
      go_wp2_with fail
      exact bodyPost_ret (v := .agg #[.int .i64 k,.string bn,.string ot,.int .i64 at_,.int .i64 va,.int .i64 ep]) (by simp [results,Tryz.results34,go_sem,at_cell HS.out.1]) rfl ⟨⟨k,bn,ot,at_,va,ep⟩,rfl,HF.out,HS.out.2.1,HS.out.2.2⟩
    · have z0 := at_cell sX11 0
      have z1 := at_cell sX11 1;have z2 := at_cell sX11 2;have z3 := at_cell sX11 3;have z4 := at_cell sX11 4;have z5 := at_cell sX11 5;obtain ⟨f0,f1,f2,f3,f4,f5⟩ := o6 st11.kB;have st12 := (((((st11.put 0 (.int .i64 k) ⟨k,bn,ot,at_,va,ep⟩ rfl fit6).put 1 (.string bn) ⟨k,bn,ot,at_,va,ep⟩ rfl fit6).put 2 (.string ot) ⟨k,bn,ot,at_,va,ep⟩ rfl fit6).put 3 (.int .i64 at_) ⟨k,bn,ot,at_,va,ep⟩ rfl fit6).put 4 (.int .i64 va) ⟨k,bn,ot,at_,va,ep⟩ rfl fit6).put 5 (.int .i64 be) ⟨k,bn,ot,at_,va,be⟩ rfl fit7
      go_upto_region 11 with fail
      generalize ((((((w11.setCell ⟨nB,0,none⟩ (.int .i64 k)).setCell ⟨nB,1,none⟩ (.string bn)).setCell ⟨nB,2,none⟩ (.string ot)).setCell ⟨nB,3,none⟩ (.int .i64 at_)).setCell ⟨nB,4,none⟩ (.int .i64 va)).setCell ⟨nB,5,none⟩ (.int .i64 be)) = W12 at st12 ⊢;clear p0 p1 p2 p3 p4 p5 z0 z1 z2 z3 z4 z5 f0 f1 f2 f3 f4 f5 sX11 st11;obtain ⟨p0,p1,p2,p3,p4,p5⟩ := c6 st12.kB;simp only at p0 p1 p2 p3 p4 p5;have q0 := at_cell st12.kR 0;have g0 := at_open st12.kR 0;have q1 := at_cell st12.kR 1;have g1 := at_open st12.kR 1;have q2 := at_cell st12.kR 2;have g2 := at_open st12.kR 2;have q3 := at_cell st12.kR 3;have g3 := at_open st12.kR 3;have q4 := at_cell st12.kR 4;have g4 := at_open st12.kR 4;have q5 := at_cell st12.kR 5;have g5 := at_open st12.kR 5;have HS : Hid _ := st12.fin;have HF : Hid _ := st12.fit;simp only at HS HF;clear st12
      go_wp2_with fail
      exact bodyPost_ret (v := .agg #[.int .i64 k,.string bn,.string ot,.int .i64 at_,.int .i64 va,.int .i64 be]) (by simp [results,Tryz.results34,go_sem,at_cell HS.out.1]) rfl ⟨⟨k,bn,ot,at_,va,be⟩,rfl,HF.out,HS.out.2.1,HS.out.2.2⟩
  · have hep' : ¬ (0 : Int) < ep := hep
    go_wp2_with fail
    refine (once_any c x len cap 2 _ (by omega) st7.kc).mono ?_;rintro e w8 ⟨y,rfl,u1,k1⟩;have st8 := st7.step u1 k1;have sK8 := (u1.block _ (heap_lt sK7) (by omega)).trans sK7;clear u1 k1 p0 p1 p2 p3 p4 p5 sK7 st7;obtain ⟨p0,p1,p2,p3,p4,p5⟩ := c6 st8.kB;simp only at p0 p1 p2 p3 p4 p5;cases y
    · skip
      have q0 := at_cell st8.kR 0;have g0 := at_open st8.kR 0;have q1 := at_cell st8.kR 1;have g1 := at_open st8.kR 1;have q2 := at_cell st8.kR 2;have g2 := at_open st8.kR 2;have q3 := at_cell st8.kR 3;have g3 := at_open st8.kR 3;have q4 := at_cell st8.kR 4;have g4 := at_open st8.kR 4;have q5 := at_cell st8.kR 5;have g5 := at_open st8.kR 5;have HS : Hid _ := st8.fin;have HF : Hid _ := st8.fit;simp only at HS HF;clear st8
      go_wp2_with fail
      exact bodyPost_ret (v := .agg #[.int .i64 k,.string bn,.string ot,.int .i64 at_,.int .i64 va,.int .i64 ep]) (by simp [results,Tryz.results34,go_sem,at_cell HS.out.1]) rfl ⟨⟨k,bn,ot,at_,va,ep⟩,rfl,HF.out,HS.out.2.1,HS.out.2.2⟩
    · skip
      have B10 : Below w8.heap.size w8 ((w8.alloc (.cells #[.int .i64 k,.string bn,.string ot,.int .i64 at_,.int .i64 va,.int .i64 ep] 26)).setCell ⟨w8.heap.size,5,none⟩ (.int .i64 be)) := bw_set (bw_alloc (Below.refl _ _)) (Nat.le_refl _) _;have sX := heap_alloc_new w8 (.cells #[.int .i64 k,.string bn,.string ot,.int .i64 at_,.int .i64 va,.int .i64 ep] 26);have sXs := set_at sX 5 (.int .i64 be);have sK9 := (Below.heap_alloc w8 (.cells #[.int .i64 k,.string bn,.string ot,.int .i64 at_,.int .i64 va,.int .i64 ep] 26) _ (heap_lt sK8)).trans sK8;have st10 := st8.step (Upto.ofBelow B10) (st8.kc.below B10);have bk4 := at_cell sK9 4;have x5 := at_cell sX 5;have xf := at_open sX 5;obtain ⟨y0,y1,y2,y3,y4,y5⟩ := c6 sXs
      go_upto_region 8 with fail
      generalize w8.alloc (.cells #[.int .i64 k,.string bn,.string ot,.int .i64 at_,.int .i64 va,.int .i64 ep] 26) = W9 at *;clear p0 p1 p2 p3 p4 p5
      go_upto_region 9 with fail
      generalize W9.setCell ⟨w8.heap.size,5,none⟩ (.int .i64 be) = W10 at *;clear B10 sX sK9 bk4 x5 xf
      go_wp2_with fail
      refine (specOpOk_any k bn ot at_ va be _ HB5.out.1 HB5.out.2).mono ?_;rintro e w11 ⟨rfl,b11⟩
      obtain ⟨okv,hok⟩ : ∃ b,opOk ⟨k,bn,ot,at_,va,be⟩ = b := ⟨_,rfl⟩
      rw [hok];clear hok;have st11 := st10.step (Upto.ofBelow b11) (st10.kc.below b11);have sX11 := (b11.block _ (heap_lt sXs)).trans sXs;clear y0 y1 y2 y3 y4 y5 b11 st10 sXs;obtain ⟨p0,p1,p2,p3,p4,p5⟩ := c6 st11.kB;simp only at p0 p1 p2 p3 p4 p5;cases okv
      · skip
        have q0 := at_cell st11.kR 0;have g0 := at_open st11.kR 0;have q1 := at_cell st11.kR 1;have g1 := at_open st11.kR 1;have q2 := at_cell st11.kR 2;have g2 := at_open st11.kR 2;have q3 := at_cell st11.kR 3;have g3 := at_open st11.kR 3;have q4 := at_cell st11.kR 4;have g4 := at_open st11.kR 4;have q5 := at_cell st11.kR 5;have g5 := at_open st11.kR 5;have HS : Hid _ := st11.fin;have HF : Hid _ := st11.fit;simp only at HS HF;clear st11
        go_wp2_with fail
        exact bodyPost_ret (v := .agg #[.int .i64 k,.string bn,.string ot,.int .i64 at_,.int .i64 va,.int .i64 ep]) (by simp [results,Tryz.results34,go_sem,at_cell HS.out.1]) rfl ⟨⟨k,bn,ot,at_,va,ep⟩,rfl,HF.out,HS.out.2.1,HS.out.2.2⟩
      · have z0 := at_cell sX11 0
        have z1 := at_cell sX11 1;have z2 := at_cell sX11 2;have z3 := at_cell sX11 3;have z4 := at_cell sX11 4;have z5 := at_cell sX11 5;obtain ⟨f0,f1,f2,f3,f4,f5⟩ := o6 st11.kB;have st12 := (((((st11.put 0 (.int .i64 k) ⟨k,bn,ot,at_,va,ep⟩ rfl fit6).put 1 (.string bn) ⟨k,bn,ot,at_,va,ep⟩ rfl fit6).put 2 (.string ot) ⟨k,bn,ot,at_,va,ep⟩ rfl fit6).put 3 (.int .i64 at_) ⟨k,bn,ot,at_,va,ep⟩ rfl fit6).put 4 (.int .i64 va) ⟨k,bn,ot,at_,va,ep⟩ rfl fit6).put 5 (.int .i64 be) ⟨k,bn,ot,at_,va,be⟩ rfl fit7
        go_upto_region 11 with fail
        generalize ((((((w11.setCell ⟨nB,0,none⟩ (.int .i64 k)).setCell ⟨nB,1,none⟩ (.string bn)).setCell ⟨nB,2,none⟩ (.string ot)).setCell ⟨nB,3,none⟩ (.int .i64 at_)).setCell ⟨nB,4,none⟩ (.int .i64 va)).setCell ⟨nB,5,none⟩ (.int .i64 be)) = W12 at st12 ⊢;clear p0 p1 p2 p3 p4 p5 z0 z1 z2 z3 z4 z5 f0 f1 f2 f3 f4 f5 sX11 st11;obtain ⟨p0,p1,p2,p3,p4,p5⟩ := c6 st12.kB;simp only at p0 p1 p2 p3 p4 p5;have q0 := at_cell st12.kR 0;have g0 := at_open st12.kR 0;have q1 := at_cell st12.kR 1;have g1 := at_open st12.kR 1;have q2 := at_cell st12.kR 2;have g2 := at_open st12.kR 2;have q3 := at_cell st12.kR 3;have g3 := at_open st12.kR 3;have q4 := at_cell st12.kR 4;have g4 := at_open st12.kR 4;have q5 := at_cell st12.kR 5;have g5 := at_open st12.kR 5;have HS : Hid _ := st12.fin;have HF : Hid _ := st12.fit;simp only at HS HF;clear st12
        go_wp2_with fail
        exact bodyPost_ret (v := .agg #[.int .i64 k,.string bn,.string ot,.int .i64 at_,.int .i64 va,.int .i64 be]) (by simp [results,Tryz.results34,go_sem,at_cell HS.out.1]) rfl ⟨⟨k,bn,ot,at_,va,be⟩,rfl,HF.out,HS.out.2.1,HS.out.2.2⟩
theorem D8.away {r : Nat} {w W W' : World} {v1 v2 vb : Value} {cs ps : List Int} {bks : List Bk} (h : RP W.heap.size W v1 v2 cs ps /\ OwnB (w.heap.size + 1) W vb bks) (p0 : ∀ b,b <= w.heap.size -> v1.ownBlock ≠ some b /\ v2.ownBlock ≠ some b) (hr : r <= w.heap.size) (u : Upto r W W') : RP W'.heap.size W' v1 v2 cs ps /\ OwnB (w.heap.size + 1) W' vb bks :=
  ⟨(h.1.upto u (Nat.le_refl _) (p0 r hr).1 (p0 r hr).2).mono u.size,⟨ownsRow_upto h.2.row u (Nat.lt_succ_of_le hr),fun y hy => ownsRow_upto (h.2.maps y hy) u (Nat.lt_succ_of_le hr)⟩⟩
structure F8 (w W : World) (v1 v2 vb : Value) (cs ps : List Int) (bks : List Bk) : Prop where
  r : RS W.heap.size W v1 v2 vb cs ps bks
  bf : ∀ y ∈ bks,BkFit y
  few : bks.length <= 7
  d : Below w.heap.size w W
  p0 : ∀ b,b < w.heap.size -> v1.ownBlock ≠ some b /\ v2.ownBlock ≠ some b
  ob : OwnB w.heap.size W vb bks
theorem six_put {W : World} {c : Nat} {x0 x1 x2 x3 x4 x5 : Value} {T : TypeId} (kc : W.heap[c]? = some (.cells #[x0,x1,x2,x3,x4,x5] T (0,0))) (y0 y1 y2 y3 y4 y5 : Value) :
    ((((((W.setCell ⟨c,0,none⟩ y0).setCell ⟨c,1,none⟩ y1).setCell ⟨c,2,none⟩ y2).setCell ⟨c,3,none⟩ y3).setCell ⟨c,4,none⟩ y4).setCell ⟨c,5,none⟩ y5).heap[c]? = some (.cells #[y0,y1,y2,y3,y4,y5] T (0,0)) /\ Upto c W ((((((W.setCell ⟨c,0,none⟩ y0).setCell ⟨c,1,none⟩ y1).setCell ⟨c,2,none⟩ y2).setCell ⟨c,3,none⟩ y3).setCell ⟨c,4,none⟩ y4).setCell ⟨c,5,none⟩ y5) :=
  ⟨set_at (set_at (set_at (set_at (set_at (set_at kc 0 y0) 1 y1) 2 y2) 3 y3) 4 y4) 5 y5,((((((Upto.refl _ _).setCell ⟨c,0,none⟩ (.inl rfl) _).setCell ⟨c,1,none⟩ (.inl rfl) _).setCell ⟨c,2,none⟩ (.inl rfl) _).setCell ⟨c,3,none⟩ (.inl rfl) _).setCell ⟨c,4,none⟩ (.inl rfl) _).setCell ⟨c,5,none⟩ (.inl rfl) _⟩
set_option maxRecDepth 100000 in
set_option maxHeartbeats 6400000 in
theorem drawDid_any (x : Option Addr) (len cap : Nat) (w : World) (hs : Src w w.heap.size x len) :
    Calls Tryz.prog 17 #[.slice x len cap] w fun e w' => ∃ (v1 v2 vb : Value) (cs ps : List Int) (bks : List Bk) (o : Oq),e = .returned (.tuple #[.agg #[v1,v2,vb],.agg #[.int .i64 o.k,.string o.nm,.string o.ot,.int .i64 o.at_,.int .i64 o.va,.int .i64 o.ep]]) /\ F8 w w' v1 v2 vb cs ps bks /\ OpFit o := by
  obtain ⟨W0,hW0,kR,kS,d0,z0⟩ := box2 w #[.slice none 0 0,.slice none 0 0,.slice none 0 0] #[.int .i64 0,.string ⟨#[]⟩,.string ⟨#[]⟩,.int .i64 0,.int .i64 0,.int .i64 0] 42 26;have HW0 : Hid (W0 = _) := hW0;have hs0 := (hs.below d0).mono d0.size;have sR : w.heap.size + 1 < W0.heap.size := by omega
  clear hW0 z0 hs
  go_enter Tryz.func17,Tryz.ntmps17
  go_wp2_with fail
  rw [<- HW0.out];clear HW0;refine (new_any x len cap _ hs0).mono ?_;rintro e w1 ⟨rfl,b1,kc⟩;replace kR := (b1.block _ (by omega)).trans kR;replace kS := (b1.block _ (by omega)).trans kS;replace d0 := bw_call d0 b1;have z1 := b1.size;have hcl := kc.lt;clear b1 hs0
  go_wp2_with fail
  refine (drawAny8_any _ x len cap _ kc).mono ?_;rintro e w2 ⟨v1,v2,vb,cs,ps,bks,rfl,D⟩;have u1 := D.u;replace kR := (u1.block _ (by omega) (by omega)).trans kR;replace kS := (u1.block _ (by omega) (by omega)).trans kS;replace d0 := d0.trans (u1.toBelow (by omega) (by omega));have z2 := u1.size;obtain ⟨p1,q1,p2,q2,rfl,rfl⟩ := D.p.forms;obtain ⟨pb,qb,rfl⟩ := own_slice D.b.row;generalize W0.heap.size = c at *;have bP : Below w2.heap.size w2 (w2.alloc (.cells #[.slice p1 cs.length q1,.slice p2 ps.length q2,.slice pb bks.length qb] 42)) := bw_alloc (Below.refl _ _);have kB := heap_alloc_new w2 (.cells #[.slice p1 cs.length q1,.slice p2 ps.length q2,.slice pb bks.length qb] 42);replace D := D.below bP;replace kR := (bP.block _ (by omega)).trans kR;replace kS := (bP.block _ (by omega)).trans kS;replace d0 := bw_call d0 bP;have hw2 : c < w2.heap.size := by omega
  clear bP u1 kc
  go_upto_region 3 with fail
  generalize w2.alloc (.cells #[.slice p1 cs.length q1,.slice p2 ps.length q2,.slice pb bks.length qb] 42) = W3 at *;generalize w2.heap.size = nB at *;have Dd := D.below (W' := W3.drew) ((Below.refl _ _).drew);have kBd : W3.drew.heap[nB]? = _ := kB;obtain ⟨c0,c1,c2⟩ := c3 kBd
  have HBF : Hid (∀ b ∈ bks,b.nm.size <= 5 /\ -1 <= b.ep /\ b.ep <= 1001) := fun b hb => ⟨(D.bf b hb).nm,(D.bf b hb).ep⟩
  have hfew := D.few
  have HFIN : Hid (∀ (w4 : World) (y0 y1 y2 y3 y4 y5 : Value),Upto c W3 w4 -> Cur w4 c x len cap ->
      w4.heap[w.heap.size]? = some (.cells #[.slice none 0 0,.slice none 0 0,.slice none 0 0] 42 (0,0)) /\ w4.heap[w.heap.size + 1]? = some (.cells #[.int .i64 0,.string ⟨#[]⟩,.string ⟨#[]⟩,.int .i64 0,.int .i64 0,.int .i64 0] 26 (0,0)) /\ w4.heap[nB]? = some (.cells #[.slice p1 cs.length q1,.slice p2 ps.length q2,.slice pb bks.length qb] 42 (0,0)) /\
      (∀ W5,W5 = ((w4.setCell ⟨w.heap.size,0,none⟩ (.slice p1 cs.length q1)).setCell ⟨w.heap.size,1,none⟩ (.slice p2 ps.length q2)).setCell ⟨w.heap.size,2,none⟩ (.slice pb bks.length qb) -> W5.heap[w.heap.size + 1]? = some (.cells #[.int .i64 0,.string ⟨#[]⟩,.string ⟨#[]⟩,.int .i64 0,.int .i64 0,.int .i64 0] 26 (0,0)) /\
        ∀ W6,W6 = (((((W5.setCell ⟨w.heap.size + 1,0,none⟩ y0).setCell ⟨w.heap.size + 1,1,none⟩ y1).setCell ⟨w.heap.size + 1,2,none⟩ y2).setCell ⟨w.heap.size + 1,3,none⟩ y3).setCell ⟨w.heap.size + 1,4,none⟩ y4).setCell ⟨w.heap.size + 1,5,none⟩ y5 -> W6.heap[w.heap.size]? = some (.cells #[.slice p1 cs.length q1,.slice p2 ps.length q2,.slice pb bks.length qb] 42 (0,0)) /\ W6.heap[w.heap.size + 1]? = some (.cells #[y0,y1,y2,y3,y4,y5] 26 (0,0)) /\ F8 w W6 (.slice p1 cs.length q1) (.slice p2 ps.length q2) (.slice pb bks.length qb) cs ps bks)) := fun w4 y0 y1 y2 y3 y4 y5 u4 k4 => by
    have hzR := heap_lt kR;have D4 := D.step u4 k4;have kR4 := (u4.block _ (heap_lt kR) (by omega)).trans kR;have kS4 := (u4.block _ (heap_lt kS) (by omega)).trans kS;have kB4 := (u4.block _ (heap_lt kB) (by omega)).trans kB;have d4 := d0.trans (u4.toBelow (by omega) (by omega));refine ⟨kR4,kS4,kB4,fun W5 hW5 => ?_⟩;have u5 : Upto w.heap.size w4 W5 := by rw [hW5];exact (((Upto.refl _ _).setCell ⟨w.heap.size,0,none⟩ (.inl rfl) _).setCell ⟨w.heap.size,1,none⟩ (.inl rfl) _).setCell ⟨w.heap.size,2,none⟩ (.inl rfl) _
    have kR5 : W5.heap[w.heap.size]? = some (.cells #[.slice p1 cs.length q1,.slice p2 ps.length q2,.slice pb bks.length qb] 42 (0,0)) := by rw [hW5];exact set_at (set_at (set_at kR4 0 _) 1 _) 2 _
    have kS5 := (u5.block _ (heap_lt kS4) (by omega)).trans kS4;refine ⟨kS5,fun W6 hW6 => ?_⟩;obtain ⟨kS6,u6⟩ := six_put kS5 y0 y1 y2 y3 y4 y5;rw [<- hW6] at kS6 u6;have m5 := D8.away ⟨D4.p,D4.b⟩ D4.p0 (show w.heap.size <= w1.heap.size by omega) u5;have m6 := D8.away m5 D4.p0 (show w.heap.size + 1 <= w1.heap.size by omega) u6;have z5 := u5.size;have hz4 := heap_lt kS4;exact ⟨(u6.block _ (heap_lt kR5) (by omega)).trans kR5,kS6,⟨⟨m6.1,m6.2.reads⟩,D4.bf,D4.few,(d4.trans (u5.toBelow (by omega) (Nat.le_refl _))).trans (u6.toBelow (by omega) (by omega)),fun b hb => D4.p0 b (by omega),m6.2.mono (by omega)⟩⟩
  have hcw1 : c < w1.heap.size + 1 := by omega
  clear kR kS d0
  go_region_law ((go_simp;go_at_call 34;refine (drawOp8_any c x len cap (w1.heap.size + 1) _ bks _ Dd.kc hcw1 (by omega) HBF.out Dd.b).mono ?_;rintro e w4 ⟨o,rfl,fit,u4,k4⟩;obtain ⟨k,nm,ot,at_,va,ep⟩ := o;have hf := HFIN.out w4 (.int .i64 k) (.string nm) (.string ot) (.int .i64 at_) (.int .i64 va) (.int .i64 ep) (upto_undrew u4) k4;obtain ⟨kR4,kS4,kB4,hf⟩ := hf;have e0 := at_cell kB4 0;have e1 := at_cell kB4 1;have e2 := at_cell kB4 2;have r0 := at_cell kR4 0;have r1 := at_cell kR4 1;have r2 := at_cell kR4 2;have f0 := at_open kR4 0;have f1 := at_open kR4 1;have f2 := at_open kR4 2;obtain ⟨W5,hW5⟩ : ∃ W5,W5 = ((w4.setCell ⟨w.heap.size,0,none⟩ (.slice p1 cs.length q1)).setCell ⟨w.heap.size,1,none⟩ (.slice p2 ps.length q2)).setCell ⟨w.heap.size,2,none⟩ (.slice pb bks.length qb) := ⟨_,rfl⟩;obtain ⟨kS5,hf⟩ := hf W5 hW5;rw [hW5] at kS5 hf;clear hW5;have t0 := at_cell kS5 0;have t1 := at_cell kS5 1;have t2 := at_cell kS5 2;have t3 := at_cell kS5 3;have t4 := at_cell kS5 4;have t5 := at_cell kS5 5;have g0 := at_open kS5 0;have g1 := at_open kS5 1;have g2 := at_open kS5 2;have g3 := at_open kS5 3;have g4 := at_open kS5 4;have g5 := at_open kS5 5;have HE : Hid _ := And.intro fit (hf _ rfl);clear hf;dsimp only))
  all_goals
    clear c0 c1 c2 e0 e1 e2 r0 r1 r2 f0 f1 f2 t0 t1 t2 t3 t4 t5 g0 g1 g2 g3 g4 g5 kR4 kS4 kB4 kS5 HFIN HBF u4 k4 fit kB kBd D Dd
    go_wp2_with fail
    exact bodyPost_ret (v := .tuple #[.agg #[.slice p1 cs.length q1,.slice p2 ps.length q2,.slice pb bks.length qb],.agg #[.int .i64 k,.string nm,.string ot,.int .i64 at_,.int .i64 va,.int .i64 ep]]) (by simp [results,Tryz.results17,go_sem,at_cell HE.out.2.1,at_cell HE.out.2.2.1]) rfl ⟨_,_,_,cs,ps,bks,⟨k,nm,ot,at_,va,ep⟩,rfl,HE.out.2.2.2,HE.out.1⟩
set_option maxRecDepth 100000 in
set_option maxHeartbeats 6400000 in
theorem drawShelfOk_any (x : Option Addr) (len cap : Nat) (w : World) (hs : Src w w.heap.size x len) :
    Calls Tryz.prog 53 #[.slice x len cap] w fun e w' => ∃ (v1 v2 vb : Value) (cs ps : List Int) (bks : List Bk),e = .returned (.agg #[v1,v2,vb]) /\ F8 w w' v1 v2 vb cs ps bks := by
  obtain ⟨W0,hW0,kR,d0,z0⟩ := box1 w #[.slice none 0 0,.slice none 0 0,.slice none 0 0] 42;have HW0 : Hid (W0 = _) := hW0;have hs0 := (hs.below d0).mono d0.size;have sR : w.heap.size < W0.heap.size := by omega
  clear hW0 z0 hs
  go_enter Tryz.func53,Tryz.ntmps53
  go_wp2_with fail
  rw [<- HW0.out];clear HW0;refine (new_any x len cap _ hs0).mono ?_;rintro e w1 ⟨rfl,b1,kc⟩;replace kR := (b1.block _ (by omega)).trans kR;replace d0 := bw_call d0 b1;have z1 := b1.size;have hcl := kc.lt;clear b1 hs0
  go_wp2_with fail
  refine (drawAny8_any _ x len cap _ kc).mono ?_;rintro e w2 ⟨v1,v2,vb,cs,ps,bks,rfl,D⟩;have u1 := D.u;replace kR := (u1.block _ (by omega) (by omega)).trans kR;replace d0 := d0.trans (u1.toBelow (by omega) (by omega));have z2 := u1.size;obtain ⟨p1,q1,p2,q2,rfl,rfl⟩ := D.p.forms;obtain ⟨pb,qb,rfl⟩ := own_slice D.b.row
  have hf : ∃ W5,W5 = ((w2.setCell ⟨w.heap.size,0,none⟩ (.slice p1 cs.length q1)).setCell ⟨w.heap.size,1,none⟩ (.slice p2 ps.length q2)).setCell ⟨w.heap.size,2,none⟩ (.slice pb bks.length qb) := ⟨_,rfl⟩
  obtain ⟨W5,hW5⟩ := hf;have u5 : Upto w.heap.size w2 W5 := by rw [hW5];exact (((Upto.refl _ _).setCell ⟨w.heap.size,0,none⟩ (.inl rfl) _).setCell ⟨w.heap.size,1,none⟩ (.inl rfl) _).setCell ⟨w.heap.size,2,none⟩ (.inl rfl) _
  have kR5 : W5.heap[w.heap.size]? = some (.cells #[.slice p1 cs.length q1,.slice p2 ps.length q2,.slice pb bks.length qb] 42 (0,0)) := by rw [hW5];exact set_at (set_at (set_at kR 0 _) 1 _) 2 _
  have m5 := D8.away ⟨D.p,D.b⟩ D.p0 (show w.heap.size <= w1.heap.size by omega) u5;have hz4 := heap_lt kR
  have HE : Hid (W5.heap[w.heap.size]? = some (.cells #[.slice p1 cs.length q1,.slice p2 ps.length q2,.slice pb bks.length qb] 42 (0,0)) /\ F8 w W5 (.slice p1 cs.length q1) (.slice p2 ps.length q2) (.slice pb bks.length qb) cs ps bks) := ⟨kR5,⟨⟨m5.1,m5.2.reads⟩,D.bf,D.few,d0.trans (u5.toBelow (by omega) (Nat.le_refl _)),fun b hb => D.p0 b (by omega),m5.2.mono (by omega)⟩⟩
  have HW5 : Hid (W5 = _) := hW5;obtain ⟨c0,c1,c2⟩ := c3 kR;obtain ⟨f0,f1,f2⟩ := o3 kR;clear hW5 u5 kR5 m5 u1 D kR d0 kc
  go_wp2_with fail
  rw [<- HW5.out];exact bodyPost_ret (v := .agg #[.slice p1 cs.length q1,.slice p2 ps.length q2,.slice pb bks.length qb]) (by simp [results,Tryz.results53,go_sem,at_cell HE.out.1]) rfl ⟨_,_,_,cs,ps,bks,rfl,HE.out.2⟩
set_option maxHeartbeats 3200000 in
theorem drawShown_any (x : Option Addr) (len cap : Nat) (w : World) (hs : Src w w.heap.size x len) :
    Calls Tryz.prog 18 #[.slice x len cap] w fun e w' => ∃ (v1 v2 vb : Value) (cs ps : List Int) (bks : List Bk),e = .returned (.agg #[v1,v2,vb]) /\ F8 w w' v1 v2 vb cs ps bks := by
  obtain ⟨W0,hW0,kR,d0,z0⟩ := box1 w #[.slice none 0 0,.slice none 0 0,.slice none 0 0] 42;have HW0 : Hid (W0 = _) := hW0;have hs0 := (hs.below d0).mono d0.size;clear hW0 z0 hs
  go_enter Tryz.func18,Tryz.ntmps18
  go_wp2_with fail
  rw [<- HW0.out];clear HW0;refine (drawShelfOk_any x len cap _ hs0).mono ?_;rintro e w2 ⟨v1,v2,vb,cs,ps,bks,rfl,F⟩;obtain ⟨p1,q1,p2,q2,pb,qb,rfl,rfl,rfl⟩ := F.r.forms;have zR := heap_lt kR;replace kR := (F.d.block _ zR).trans kR;replace d0 := bw_call d0 F.d
  have hf : ∃ W5,W5 = ((w2.setCell ⟨w.heap.size,0,none⟩ (.slice p1 cs.length q1)).setCell ⟨w.heap.size,1,none⟩ (.slice p2 ps.length q2)).setCell ⟨w.heap.size,2,none⟩ (.slice pb bks.length qb) := ⟨_,rfl⟩
  obtain ⟨W5,hW5⟩ := hf;have u5 : Upto w.heap.size w2 W5 := by rw [hW5];exact (((Upto.refl _ _).setCell ⟨w.heap.size,0,none⟩ (.inl rfl) _).setCell ⟨w.heap.size,1,none⟩ (.inl rfl) _).setCell ⟨w.heap.size,2,none⟩ (.inl rfl) _
  have kR5 : W5.heap[w.heap.size]? = some (.cells #[.slice p1 cs.length q1,.slice p2 ps.length q2,.slice pb bks.length qb] 42 (0,0)) := by rw [hW5];exact set_at (set_at (set_at kR 0 _) 1 _) 2 _
  have hp := F.p0 w.heap.size (by omega);have mp := (F.r.p.upto u5 (Nat.le_refl _) hp.1 hp.2).mono u5.size
  have mb : OwnB W0.heap.size W5 (.slice pb bks.length qb) bks := ⟨ownsRow_upto F.ob.row u5 (by omega),fun y hy => ownsRow_upto (F.ob.maps y hy) u5 (by omega)⟩
  have hz4 := heap_lt kR
  have HE : Hid (W5.heap[w.heap.size]? = some (.cells #[.slice p1 cs.length q1,.slice p2 ps.length q2,.slice pb bks.length qb] 42 (0,0)) /\ F8 w W5 (.slice p1 cs.length q1) (.slice p2 ps.length q2) (.slice pb bks.length qb) cs ps bks) := ⟨kR5,⟨⟨mp,mb.reads⟩,F.bf,F.few,d0.trans (u5.toBelow (by omega) (Nat.le_refl _)),fun b hb => F.p0 b (by omega),mb.mono (by omega)⟩⟩
  have HW5 : Hid (W5 = _) := hW5;obtain ⟨c0,c1,c2⟩ := c3 kR;obtain ⟨f0,f1,f2⟩ := o3 kR;clear hW5 u5 kR5 mp mb F kR d0 hp
  go_wp2_with fail
  rw [<- HW5.out];exact bodyPost_ret (v := .agg #[.slice p1 cs.length q1,.slice p2 ps.length q2,.slice pb bks.length qb]) (by simp [results,Tryz.results18,go_sem,at_cell HE.out.1]) rfl ⟨_,_,_,cs,ps,bks,rfl,HE.out.2⟩
end Go.Proofs.YtcefcglonooelaaGreatDoor
