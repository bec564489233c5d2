import Derived.Deep.RegionHeld3
import Derived.Test.YtcefcglonooelaaGreatDoorA06
import Derived.Test.YtcefcglonooelaaGreatDoorA16
import Derived.Test.YtcefcglonooelaaGreatDoorA23
import Derived.Test.YtcefcglonooelaaGreatDoorA26
import Derived.Test.YtcefcglonooelaaGreatDoorA32
import Derived.Test.YtcefcglonooelaaGreatDoorA33
import Derived.Test.YtcefcglonooelaaGreatDoorA34
namespace Go.Proofs.YtcefcglonooelaaGreatDoor
open Go.RowKit
set_option linter.unusedVariables false
set_option maxRecDepth 100000
structure ReadsS (w : World) (v1 v2 vb : Value) (s : Sf) : Prop where
  c : Reads w.heap.size w v1 (s.cs.map (Value.int .i64))
  p : Reads w.heap.size w v2 (s.ps.map (Value.int .i64))
  b : ∃ bks : List Bk,ReadsB w.heap.size w vb bks /\ bks.map Bk.pb = s.bs
theorem ReadsS.below {w w' : World} {v1 v2 vb : Value} {s : Sf} (h : ReadsS w v1 v2 vb s) (k : Below w.heap.size w w') : ReadsS w' v1 v2 vb s := by
  obtain ⟨bks,h1,h2⟩ := h.b;exact ⟨(h.c.below k).mono k.size,(h.p.below k).mono k.size,bks,(h1.below k).mono k.size,h2⟩
structure OwnD (base : Nat) (w : World) (v1 v2 vb : Value) (s : Sf) : Prop where
  p : OwnP base w v1 v2 s.cs s.ps
  b : ∃ bks : List Bk,OwnB base w vb bks /\ bks.map Bk.pb = s.bs
theorem OwnD.below {base : Nat} {w w' : World} {v1 v2 vb : Value} {s : Sf} (h : OwnD base w v1 v2 vb s) (k : Below w.heap.size w w') : OwnD base w' v1 v2 vb s := by
  obtain ⟨bks,h1,h2⟩ := h.b;exact ⟨h.p.below k,bks,h1.below k,h2⟩
theorem OwnD.upto {base c : Nat} {w w' : World} {v1 v2 vb : Value} {s : Sf} (h : OwnD base w v1 v2 vb s) (u : Upto c w w') (hc : c < base) : OwnD base w' v1 v2 vb s := by
  obtain ⟨bks,h1,h2⟩ := h.b;exact ⟨h.p.upto u hc,bks,h1.upto u hc,h2⟩
theorem OwnD.mono {base base' : Nat} {w : World} {v1 v2 vb : Value} {s : Sf} (h : OwnD base w v1 v2 vb s) (k : base' <= base) : OwnD base' w v1 v2 vb s := by
  obtain ⟨bks,h1,h2⟩ := h.b;exact ⟨h.p.mono k,bks,h1.mono k,h2⟩
theorem OwnD.reads {base : Nat} {w : World} {v1 v2 vb : Value} {s : Sf} (h : OwnD base w v1 v2 vb s) : ReadsS w v1 v2 vb s := by
  obtain ⟨bks,h1,h2⟩ := h.b;exact ⟨Reads.of_own h.p.c,Reads.of_own h.p.p,bks,h1.reads,h2⟩
theorem OwnD.nil (base : Nat) (w : World) : OwnD base w (.slice none 0 0) (.slice none 0 0) (.slice none 0 0) ⟨[],[],[]⟩ := ⟨OwnP.nil _ _,[],⟨World.ownsRow_nil _ _ _ _,fun b hb => by cases hb⟩,rfl⟩
theorem did_reads {base b c d : Nat} {W : World} {u1 u2 ub : Value} {bks : List Bk} {s : Sf} (st : ShSt base b W u1 u2 ub bks s) (hc : c < base) (hd : d < base) (y0 y1 y2 y3 y4 : Value) : OwnD base (((((W.setCell ⟨c,0,none⟩ y0).setCell ⟨c,1,none⟩ y1).setCell ⟨c,2,none⟩ y2).setCell ⟨d,0,none⟩ y3).setCell ⟨d,1,none⟩ y4).drew u1 u2 ub s /\ OwnD base (((((W.setCell ⟨d,0,none⟩ y3).setCell ⟨d,1,none⟩ y4).setCell ⟨c,0,none⟩ y0).setCell ⟨c,1,none⟩ y1).setCell ⟨c,2,none⟩ y2).drew u1 u2 ub s := by
  have ua : ∀ X : World,Upto c X (((X.setCell ⟨c,0,none⟩ y0).setCell ⟨c,1,none⟩ y1).setCell ⟨c,2,none⟩ y2) := fun X => (((Upto.refl _ _).setCell ⟨c,0,none⟩ (.inl rfl) _).setCell ⟨c,1,none⟩ (.inl rfl) _).setCell ⟨c,2,none⟩ (.inl rfl) _
  have ud : ∀ X : World,Upto d X ((X.setCell ⟨d,0,none⟩ y3).setCell ⟨d,1,none⟩ y4) := fun X => ((Upto.refl _ _).setCell ⟨d,0,none⟩ (.inl rfl) _).setCell ⟨d,1,none⟩ (.inl rfl) _
  have h0 : OwnD base W u1 u2 ub s := ⟨st.pool,bks,st.books,st.eq⟩
  exact ⟨((h0.upto (ua _) hc).upto (ud _) hd).below ((Below.refl _ _).drew),((h0.upto (ud _) hd).upto (ua _) hc).below ((Below.refl _ _).drew)⟩
set_option maxHeartbeats 3200000 in
theorem specDidO_any (v1 v2 vb : Value) (cs ps : List Int) (bks : List Bk) (k : Int) (nm ot : ByteArray) (at_ va ep : Int) (w : World) (hnb : ∀ b ∈ bks,b.nm.size <= maxLen) (hn : nm.size <= maxLen) (ho : ot.size <= maxLen) (r1 : Reads w.heap.size w v1 (cs.map (Value.int .i64))) (r2 : Reads w.heap.size w v2 (ps.map (Value.int .i64))) (rb : ReadsB w.heap.size w vb bks) :
    Calls Tryz.prog 22 #[.agg #[v1,v2,vb],.agg #[.int .i64 k,.string nm,.string ot,.int .i64 at_,.int .i64 va,.int .i64 ep]] w fun e w' => ∃ u1 u2 ub : Value,e = .returned (.tuple #[.agg #[u1,u2,ub],.agg #[.int .i64 (didOp ⟨cs,ps,bks.map Bk.pb⟩ ⟨k,nm,ot,at_,va,ep⟩).2.1,.int .i64 (didOp ⟨cs,ps,bks.map Bk.pb⟩ ⟨k,nm,ot,at_,va,ep⟩).2.2]]) /\ OwnD w.heap.size w' u1 u2 ub (didOp ⟨cs,ps,bks.map Bk.pb⟩ ⟨k,nm,ot,at_,va,ep⟩).1 /\ Below w.heap.size w w' := by
  obtain ⟨o1,cp1,f1,-,-,-⟩ := id r1;obtain ⟨o2,cp2,f2,-,-,-⟩ := id r2;obtain ⟨ob,cpb,f3,-,-,-⟩ := id rb.row;simp only [List.length_map] at f1 f2;subst f1 f2 f3;obtain ⟨Wa,hWa,ka,kb,da,za⟩ := box2 w #[.slice o1 cs.length cp1,.slice o2 ps.length cp2,.slice ob bks.length cpb] #[.int .i64 k,.string nm,.string ot,.int .i64 at_,.int .i64 va,.int .i64 ep] 42 26;obtain ⟨W0,hW0,kc,kd,d0,z0⟩ := box2 Wa #[.slice none 0 0,.slice none 0 0,.slice none 0 0] #[.int .i64 0,.int .i64 0] 42 30;rw [za] at kc kd;rw [hWa] at hW0;have HW0 : Hid (W0 = _) := hW0;replace ka := (d0.block _ (heap_lt ka)).trans ka;replace kb := (d0.block _ (heap_lt kb)).trans kb;replace d0 := bw_call da d0;have s1 := (r1.below d0).mono d0.size;have s2 := (r2.below d0).mono d0.size;have sb := (rb.below d0).mono d0.size;clear hW0 hWa za z0 da r1 r2 rb
  go_enter Tryz.func22,Tryz.ntmps22
  go_wp2_with fail
  rw [<- HW0.out];clear HW0;refine (specShelfOk_any _ _ _ cs ps bks _ hnb s1 s2 sb).mono ?_;rintro e w1 ⟨rfl,b1⟩;replace ka := (b1.block _ (heap_lt ka)).trans ka;replace kb := (b1.block _ (heap_lt kb)).trans kb;replace kc := (b1.block _ (heap_lt kc)).trans kc;replace kd := (b1.block _ (heap_lt kd)).trans kd;replace d0 := bw_call d0 b1;replace s1 := (s1.below b1).mono b1.size;replace s2 := (s2.below b1).mono b1.size;replace sb := (sb.below b1).mono b1.size;have lc1 := heap_lt kc;have ld1 := heap_lt kd;clear b1
  obtain ⟨bs,hbs⟩ : ∃ bs,bks.map Bk.pb = bs := ⟨_,rfl⟩
  rw [hbs];have n1 : ¬ w.heap.size + 1 + 1 = w.heap.size + 1 + 1 + 1 := by omega
  have n2 : ¬ w.heap.size + 1 + 1 + 1 = w.heap.size + 1 + 1 := by omega
  cases hok : shelfOk ⟨cs,ps,bs⟩
  · have HV : Hid (didOp ⟨cs,ps,bs⟩ ⟨k,nm,ot,at_,va,ep⟩ = (⟨[],[],[]⟩,(1,0))) := didOp_no hok
    have HB : Hid _ := hbs;have q0 := at_cell kc 0;have q1 := at_cell kc 1;have q2 := at_cell kc 2;obtain ⟨f0,f1,f2⟩ := o3 kc;have q3 := at_cell kd 0;have q4 := at_cell kd 1;have f3 := at_open kd 0;have f4 := at_open kd 1;have HS : Hid _ := did_end (w := w) kc kd n1 (by omega) d0 (.slice none 0 0) (.slice none 0 0) (.slice none 0 0) (.int .i64 1) (.int .i64 0);clear ka kb kc kd d0 s1 s2 sb hok hbs
    go_wp2_with fail
    exact bodyPost_ret (v := .tuple #[.agg #[.slice none 0 0,.slice none 0 0,.slice none 0 0],.agg #[.int .i64 1,.int .i64 0]]) (by simp [results,Tryz.results22,go_sem,at_cell HS.out.1,at_cell HS.out.2.1]) rfl ⟨_,_,_,by rw [HB.out,HV.out],by rw [HB.out,HV.out];exact OwnD.nil _ _,HS.out.2.2⟩
  · have HV : Hid (didOp ⟨cs,ps,bs⟩ ⟨k,nm,ot,at_,va,ep⟩ = doOp ⟨cs,ps,bs⟩ ⟨k,nm,ot,at_,va,ep⟩) := didOp_yes hok
    have HB : Hid _ := hbs;have inv := (shelfOk_iff _).1 hok;have h24 := inv.n1;have HPP : Hid (ps.length = cs.length) := inv.cells.p;have hfew : bks.length <= 6 := by have h := inv.few;simp only at h;rw [<- hbs,List.length_map] at h;exact h
    have hrs : ∀ b ∈ bks,b.rs.length <= 1048576 := fun b hb => by
      have h := (book_parts (inv.oks b.pb (by rw [<- hbs];exact List.mem_map_of_mem hb))).2.2.2.1;rw [mapOk,Bool.and_eq_true,decide_eq_true_iff] at h;have := h.2;simp only [Bk.pb] at this
      omega
    simp only at h24;have a0 := at_cell ka 0;have a1 := at_cell ka 1;have a2 := at_cell ka 2;clear hok
    go_wp2_with fail
    clear a0 a1 a2;refine (l8Copy_any _ _ _ cs ps bks _ (by omega) (by have := HPP.out;omega) hfew hrs s1 s2 sb).mono ?_;rintro e w2 ⟨u1,u2,ub,ms,rfl,ownP,ownB,hms,b2⟩;obtain ⟨p1,q1,hf1⟩ := own_slice ownP.c;obtain ⟨p2,q2,hf2⟩ := own_slice ownP.p;obtain ⟨p3,q3,hf3⟩ := own_slice ownB.row;subst hf1 hf2 hf3;replace ka := (b2.block _ (heap_lt ka)).trans ka;replace kb := (b2.block _ (heap_lt kb)).trans kb;replace kc := (b2.block _ (heap_lt kc)).trans kc;replace kd := (b2.block _ (heap_lt kd)).trans kd;have lc := heap_lt kc;have ld := heap_lt kd;obtain ⟨W3,hW3,k6,d3,z3⟩ := box1 w2 #[.slice p1 cs.length q1,.slice p2 ps.length q2,.slice p3 ms.length q3] 42;have HW3 : Hid (W3 = _) := hW3
    have st : ShSt w1.heap.size w2.heap.size W3 (.slice p1 cs.length q1) (.slice p2 ps.length q2) (.slice p3 ms.length q3) ms ⟨cs,ps,bs⟩ := ⟨k6,b2.size,ownP.below d3,ownB.below d3,by rw [hms,hbs]⟩
    have b23 : Below w1.heap.size w1 W3 := bw_call b2 d3;have lb := heap_lt kb;obtain ⟨c0,c1,c2,c3,c4,c5⟩ := c6 kb;replace kc := (d3.block _ (heap_lt kc)).trans kc;replace kd := (d3.block _ (heap_lt kd)).trans kd;clear hW3 z3 k6 s1 s2 sb ownP ownB ka
    go_wp2_with fail
    rw [<- HW3.out];clear HW3 c0 c1 c2 c3 c4 c5 lb kb;refine (l8Do_any w1.heap.size w2.heap.size _ _ _ ms ⟨cs,ps,bs⟩ k nm ot at_ va ep _ hn ho inv st).mono ?_;rintro e w4 ⟨vb',bks',rfl,st4,b4⟩;obtain ⟨p4,q4,hf4⟩ := own_slice st4.books.row;subst hf4
    obtain ⟨⟨s',c',v'⟩,hdo⟩ : ∃ x,doOp ⟨cs,ps,bs⟩ ⟨k,nm,ot,at_,va,ep⟩ = x := ⟨_,rfl⟩
    rw [hdo] at HV st4;rw [hdo];simp only at st4 ⊢;replace kc := (b4.block _ lc1).trans kc;replace kd := (b4.block _ ld1).trans kd;have d4 := d0.trans ((b23.trans b4).mono d0.size);obtain ⟨W5,hW5,k7,d5,z5⟩ := box1 w4 #[.int .i64 c',.int .i64 v'] 30;have HW5 : Hid (W5 = _) := hW5;have st5 := st4.below d5;replace kc := (d5.block _ (heap_lt kc)).trans kc;replace kd := (d5.block _ (heap_lt kd)).trans kd;replace d4 := bw_call d4 d5;clear hW5 z5;have hb26 := st5.lo;have hb4s := Nat.lt_of_lt_of_le (heap_lt st4.box) (Nat.le_refl _);have m1 : ¬ w.heap.size + 1 + 1 = w2.heap.size := by omega
    have m2 : ¬ w2.heap.size = w.heap.size + 1 + 1 := by omega
    have m3 : ¬ w.heap.size + 1 + 1 + 1 = w2.heap.size := by omega
    have m4 : ¬ w2.heap.size = w.heap.size + 1 + 1 + 1 := by omega
    have m5 : ¬ w.heap.size + 1 + 1 = w4.heap.size := by omega
    have m6 : ¬ w4.heap.size = w.heap.size + 1 + 1 := by omega
    have m7 : ¬ w.heap.size + 1 + 1 + 1 = w4.heap.size := by omega
    have m8 : ¬ w4.heap.size = w.heap.size + 1 + 1 + 1 := by omega
    have HE1 : Hid _ := did_end (w := w) kc kd n1 (by omega) d4 (.slice p1 cs.length q1) (.slice p2 ps.length q2) (.slice p4 bks'.length q4) (.int .i64 c') (.int .i64 v');have HE2 : Hid _ := did_end2 (w := w) kc kd n1 (by omega) d4 (.slice p1 cs.length q1) (.slice p2 ps.length q2) (.slice p4 bks'.length q4) (.int .i64 c') (.int .i64 v');have HRS : Hid _ := did_reads st5 lc1 ld1 (.slice p1 cs.length q1) (.slice p2 ps.length q2) (.slice p4 bks'.length q4) (.int .i64 c') (.int .i64 v');have g0 : W5.drew.cell? ⟨w2.heap.size,0,none⟩ = some (.slice p1 cs.length q1) := at_cell st5.box 0;have g1 : W5.drew.cell? ⟨w2.heap.size,1,none⟩ = some (.slice p2 ps.length q2) := at_cell st5.box 1;have g2 : W5.drew.cell? ⟨w2.heap.size,2,none⟩ = some (.slice p4 bks'.length q4) := at_cell st5.box 2;have g3 : W5.drew.cell? ⟨w4.heap.size,0,none⟩ = some (.int .i64 c') := at_cell k7 0;have g4 : W5.drew.cell? ⟨w4.heap.size,1,none⟩ = some (.int .i64 v') := at_cell k7 1;have t0 : W5.drew.cell? ⟨w.heap.size + 1 + 1,0,none⟩ = some (.slice none 0 0) := at_cell kc 0;have t1 : W5.drew.cell? ⟨w.heap.size + 1 + 1,1,none⟩ = some (.slice none 0 0) := at_cell kc 1;have t2 : W5.drew.cell? ⟨w.heap.size + 1 + 1,2,none⟩ = some (.slice none 0 0) := at_cell kc 2;have t3 : W5.drew.cell? ⟨w.heap.size + 1 + 1 + 1,0,none⟩ = some (.int .i64 0) := at_cell kd 0;have t4 : W5.drew.cell? ⟨w.heap.size + 1 + 1 + 1,1,none⟩ = some (.int .i64 0) := at_cell kd 1;have y0 : W5.drew.frozen? ⟨w.heap.size + 1 + 1,0,none⟩ = false := at_open kc 0;have y1 : W5.drew.frozen? ⟨w.heap.size + 1 + 1,1,none⟩ = false := at_open kc 1;have y2 : W5.drew.frozen? ⟨w.heap.size + 1 + 1,2,none⟩ = false := at_open kc 2;have y3 : W5.drew.frozen? ⟨w.heap.size + 1 + 1 + 1,0,none⟩ = false := at_open kd 0;have y4 : W5.drew.frozen? ⟨w.heap.size + 1 + 1 + 1,1,none⟩ = false := at_open kd 1;have g0n := at_cell st5.box 0;have g1n := at_cell st5.box 1;have g2n := at_cell st5.box 2;have g3n := at_cell k7 0;have g4n := at_cell k7 1;have t0n := at_cell kc 0;have t1n := at_cell kc 1;have t2n := at_cell kc 2;have t3n := at_cell kd 0;have t4n := at_cell kd 1;obtain ⟨y0n,y1n,y2n⟩ := o3 kc;have y3n := at_open kd 0;have y4n := at_open kd 1;clear st st4 st5 kc kd k7 d4 d0 d3 d5 b2 b4 b23 hms hdo inv hb4s
    go_wp2_with fail
    rw [<- HW5.out];clear HW5
    go_region
    all_goals go_wp2_with fail
    all_goals first
      | exact bodyPost_ret (v := .tuple #[.agg #[.slice p1 cs.length q1,.slice p2 ps.length q2,.slice p4 bks'.length q4],.agg #[.int .i64 c',.int .i64 v']]) (by simp [results,Tryz.results22,go_sem,at_cell HE1.out.1,at_cell HE1.out.2.1]) rfl ⟨_,_,_,by rw [HB.out,HV.out],by rw [HB.out,HV.out];exact HRS.out.1.mono (by omega),HE1.out.2.2.drew⟩
      | exact bodyPost_ret (v := .tuple #[.agg #[.slice p1 cs.length q1,.slice p2 ps.length q2,.slice p4 bks'.length q4],.agg #[.int .i64 c',.int .i64 v']]) (by simp [results,Tryz.results22,go_sem,at_cell HE2.out.1,at_cell HE2.out.2.1]) rfl ⟨_,_,_,by rw [HB.out,HV.out],by rw [HB.out,HV.out];exact HRS.out.2.mono (by omega),HE2.out.2.2.drew⟩
theorem RS.of {B : Nat} {W : World} {v1 v2 vb : Value} {cs ps : List Int} {bks : List Bk} (h : RS B W v1 v2 vb cs ps bks) (y : B <= W.heap.size) (q : BelowOf W) : RS q.w'.heap.size q.w' v1 v2 vb cs ps bks := ((h.mono y).below q.h).mono q.h.size
theorem RS.nil (B : Nat) (w : World) : RS B w (.slice none 0 0) (.slice none 0 0) (.slice none 0 0) [] [] [] := ⟨⟨Reads.none _ _,Reads.none _ _⟩,readsB_nil _ _⟩
theorem BkFit.nl {y : Bk} (h : BkFit y) : y.nm.size <= maxLen := by have := h.nm;unfold maxLen;omega
theorem did_fits {s : Sf} {o : Oq} {ms : List Bk} (h : ms.map Bk.pb = (didOp s o).1.bs) : ∀ y ∈ ms,BkFit y := fun y hy => by
  cases hs : shelfOk s
  · rw [didOp_no hs] at h
    have : ms = [] := List.map_eq_nil_iff.1 h;subst this;cases hy
  · rw [didOp_yes hs] at h
    exact fit_right (do_inv ((shelfOk_iff s).1 hs) o) (by rw [<- h];exact List.mem_map_of_mem hy)
theorem did_ok {s : Sf} {o : Oq} (hs : shelfOk s = true) : shelfOk (didOp s o).1 = true := by
  rw [didOp_yes hs];exact (shelfOk_iff _).2 (do_inv ((shelfOk_iff s).1 hs) o)
end Go.Proofs.YtcefcglonooelaaGreatDoor
namespace Go.Proofs.YtcefcglonooelaaGreatDoor
set_option linter.unusedVariables false
set_option maxRecDepth 100000
theorem val_range {s : Sf} (h : ShInv s) (rs : List (Int × Int × Int)) (k : Nat) : 0 <= valAt s.ps rs k /\ valAt s.ps rs k <= 999 := by
  have key : ∀ j : Nat,0 <= s.ps.getD j 0 /\ s.ps.getD j 0 <= 999 := fun j => by
    by_cases hj : j < s.cs.length
    · have := h.cells.val j hj
      omega
    · have hl := h.cells.p
      have : s.ps.getD j 0 = 0 := by rw [List.getD_eq_getElem?_getD,List.getElem?_eq_none (by omega)];rfl
      omega
  unfold valAt
  split
  · omega
  · exact key _
theorem shown_right {s : Sf} (h : ShInv s) : plainsOk (s.bs.map (shownP s.ps)) = true := by
  refine plains_of (by rw [List.length_map];exact h.few) (fun p hp => ?_) ?_
  · obtain ⟨b,hb,rfl⟩ := List.mem_map.1 hp
    obtain ⟨h1,h2,h3,-⟩ := book_parts (h.oks b hb);refine pv_ok_by h1 h2 h3 ?_ ?_
    · show ((shownV s.ps b.rs b.sz.toNat).length : Int) = b.sz
      rw [shownV_len]
      omega
    · show valuesB (shownV s.ps b.rs b.sz.toNat) = true
      unfold valuesB shownV;rw [List.all_eq_true];intro x hx;obtain ⟨j,-,rfl⟩ := List.mem_map.1 hx;have := val_range h b.rs j;simp [this.1,this.2]
  · have e : (s.bs.map (shownP s.ps)).map Pv.nm = s.bs.map Pb.nm := by rw [List.map_map];rfl
    rw [e];exact h.srt
theorem as_told {s : Sf} (h : shelfOk s = true) (o : Oq) : didPlain (shownPlain s) o (didOp s o).2.1 = (shownPlain (didOp s o).1,(didOp s o).2) := by
  have hi := (shelfOk_iff s).1 h;have e1 : shownPlain s = s.bs.map (shownP s.ps) := by rw [shownPlain,if_pos h]
  have hd := did_ok (o := o) h;rw [didOp_yes h] at hd ⊢;have e2 : shownPlain (doOp s o).1 = (doOp s o).1.bs.map (shownP (doOp s o).1.ps) := by rw [shownPlain,if_pos hd]
  rw [e1,e2,didPlain,if_pos (shown_right hi),as_plain hi o]
theorem right_names {ms : List Pk} (h : plainsOk (ms.map Pk.pv) = true) : ∀ b ∈ ms,b.nm.size <= maxLen := fun b hb => by
  have h1 := (pv_all ((plains_ok h).2 b.pv (List.mem_map_of_mem hb))).1;have h2 := (nameB_size _ h1).2;unfold maxLen
  show b.pv.nm.size <= _
  omega
theorem shown_names {s : Sf} {ms : List Pk} (h : ms.map Pk.pv = shownPlain s) : ∀ b ∈ ms,b.nm.size <= maxLen := by
  refine right_names ?_;rw [h,shownPlain]
  split
  · rename_i hs
    exact shown_right ((shelfOk_iff s).1 hs)
  · rfl
end Go.Proofs.YtcefcglonooelaaGreatDoor
namespace Go.Proofs.YtcefcglonooelaaGreatDoor
open Go.RowKit
set_option linter.unusedVariables false
set_option maxRecDepth 100000
def bareK (b : Pk) : ByteArray × Int × List Int × Bool × Int := (b.nm,b.sz,b.rs,b.fx,b.ep)
theorem bare_len {bs ms : List Pk} (h : ms.map bareK = bs.map bareK) : ms.length = bs.length := by simpa using congrArg List.length h
theorem bare_at {bs ms : List Pk} (h : ms.map bareK = bs.map bareK) (k : Nat) (h1 : k < ms.length) (h2 : k < bs.length) : bareK ms[k] = bareK bs[k] := by
  have e : (ms.map bareK)[k]? = (bs.map bareK)[k]? := by rw [h]
  simpa [h1,h2] using e
theorem five_cellsK {B : Nat} {w : World} {o : Option Addr} {bs : List Pk} (hc : ∀ i x,bs[i]? = some x -> ∃ g off,o = some ⟨g,off,none⟩ /\ g < B /\ ∀ j u,(pkC x)[j]? = some u -> w.cell? ⟨g,off + i * 5 + j,none⟩ = some u) (i : Nat) (hi : i < bs.length) :
    ∃ g off,o = some ⟨g,off,none⟩ /\ g < B /\ w.cell? ⟨g,off + i * 5,none⟩ = some (.string bs[i].nm) /\ w.cell? ⟨g,off + i * 5 + 1,none⟩ = some (.int .i64 bs[i].sz) /\ w.cell? ⟨g,off + i * 5 + 2,none⟩ = some bs[i].m /\ w.cell? ⟨g,off + i * 5 + 3,none⟩ = some (.bool bs[i].fx) /\ w.cell? ⟨g,off + i * 5 + 4,none⟩ = some (.int .i64 bs[i].ep) := by
  obtain ⟨g,off,e,hg,hx⟩ := hc i bs[i] (List.getElem?_eq_getElem hi);exact ⟨g,off,e,hg,hx 0 _ rfl,hx 1 _ rfl,hx 2 _ rfl,hx 3 _ rfl,hx 4 _ rfl⟩
theorem Tryz.infoPlain : (Tryz.prog.info? 51).map (fun i => (i.zero,i.size,i.bytes)) = some (some (.agg #[.string ByteArray.empty,.int .i64 0,.slice none 0 0,.bool false,.int .i64 0]),5,64) := by kernel_rfl
theorem own_plain {w : World} {base g n cap : Nat} {xs : List Pk} (h : w.ownsRow base 51 5 (.slice (some ⟨g,0,none⟩) n cap) xs.length (xs.flatMap pkC)) (i : Nat) (hi : i < xs.length) (y : Pk) :
    (((((w.setCell ⟨g,i * 5,none⟩ (.string y.nm)).setCell ⟨g,i * 5 + 1,none⟩ (.int .i64 y.sz)).setCell ⟨g,i * 5 + 2,none⟩ y.m).setCell ⟨g,i * 5 + 3,none⟩ (.bool y.fx)).setCell ⟨g,i * 5 + 4,none⟩ (.int .i64 y.ep)).ownsRow base 51 5 (.slice (some ⟨g,0,none⟩) n cap) (xs.set i y).length ((xs.set i y).flatMap pkC) := by
  obtain ⟨x,hx⟩ : ∃ x,xs[i] = x := ⟨_,rfl⟩
  have hxi : xs[i]? = some x := by rw [List.getElem?_eq_getElem hi,hx]
  have h1 := own_put pkC_len h i 0 x ⟨y.nm,x.sz,x.m,x.rs,x.fx,x.ep⟩ (.string y.nm) hxi (by omega) rfl;have h2 := own_put pkC_len h1 i 1 ⟨y.nm,x.sz,x.m,x.rs,x.fx,x.ep⟩ ⟨y.nm,y.sz,x.m,x.rs,x.fx,x.ep⟩ (.int .i64 y.sz) (by simp [hi]) (by omega) rfl;have h3 := own_put pkC_len h2 i 2 ⟨y.nm,y.sz,x.m,x.rs,x.fx,x.ep⟩ ⟨y.nm,y.sz,y.m,x.rs,x.fx,x.ep⟩ y.m (by simp [hi]) (by omega) rfl;have h4 := own_put pkC_len h3 i 3 ⟨y.nm,y.sz,y.m,x.rs,x.fx,x.ep⟩ ⟨y.nm,y.sz,y.m,x.rs,y.fx,x.ep⟩ (.bool y.fx) (by simp [hi]) (by omega) rfl;have h5 := own_put pkC_len h4 i 4 ⟨y.nm,y.sz,y.m,x.rs,y.fx,x.ep⟩ y (.int .i64 y.ep) (by simp [hi]) (by omega) rfl;rw [List.set_set,List.set_set,List.set_set,List.set_set] at h5;exact h5
theorem own_fiveK {w : World} {base g n cap : Nat} {xs : List Pk} (h : w.ownsRow base 51 5 (.slice (some ⟨g,0,none⟩) n cap) xs.length (xs.flatMap pkC)) (i : Nat) (hi : i < xs.length) :
    (w.cell? ⟨g,i * 5,none⟩ = some (.string xs[i].nm) /\ w.cell? ⟨g,i * 5 + 1,none⟩ = some (.int .i64 xs[i].sz) /\ w.cell? ⟨g,i * 5 + 2,none⟩ = some xs[i].m /\ w.cell? ⟨g,i * 5 + 3,none⟩ = some (.bool xs[i].fx) /\ w.cell? ⟨g,i * 5 + 4,none⟩ = some (.int .i64 xs[i].ep)) /\ w.frozen? ⟨g,i * 5,none⟩ = false /\ w.frozen? ⟨g,i * 5 + 1,none⟩ = false /\ w.frozen? ⟨g,i * 5 + 2,none⟩ = false /\ w.frozen? ⟨g,i * 5 + 3,none⟩ = false /\ w.frozen? ⟨g,i * 5 + 4,none⟩ = false := by
  obtain ⟨a0,b0⟩ := own_cell pkC_len h i 0 _ (List.getElem?_eq_getElem hi) (by omega);obtain ⟨a1,b1⟩ := own_cell pkC_len h i 1 _ (List.getElem?_eq_getElem hi) (by omega);obtain ⟨a2,b2⟩ := own_cell pkC_len h i 2 _ (List.getElem?_eq_getElem hi) (by omega);obtain ⟨a3,b3⟩ := own_cell pkC_len h i 3 _ (List.getElem?_eq_getElem hi) (by omega);obtain ⟨a4,b4⟩ := own_cell pkC_len h i 4 _ (List.getElem?_eq_getElem hi) (by omega);exact ⟨⟨a0,a1,a2,a3,a4⟩,b0,b1,b2,b3,b4⟩
structure OwnK (base : Nat) (w : World) (v : Value) (bs : List Pk) : Prop where
  row : w.ownsRow base 51 5 v bs.length (bs.flatMap pkC)
  maps : ∀ b ∈ bs,w.ownsRow base 2 1 b.m b.rs.length (b.rs.flatMap intC)
theorem OwnK.reads {base : Nat} {w : World} {v : Value} {bs : List Pk} (h : OwnK base w v bs) : ReadsK w.heap.size w v bs := ⟨ReadsR.of_own pkC_len h.row,fun b hb => ReadsR.of_own intC_len (h.maps b hb)⟩
theorem OwnK.below {base : Nat} {w w' : World} {v : Value} {bs : List Pk} (h : OwnK base w v bs) (k : Below w.heap.size w w') : OwnK base w' v bs := ⟨owns_below h.row k,fun b hb => owns_below (h.maps b hb) k⟩
theorem OwnK.mono {base base' : Nat} {w : World} {v : Value} {bs : List Pk} (h : OwnK base w v bs) (k : base' <= base) : OwnK base' w v bs := ⟨owns_mono h.row k,fun b hb => owns_mono (h.maps b hb) k⟩
def ApartK (ms : List Pk) : Prop := ms.Pairwise (fun a b => ∀ g,a.m.ownBlock = some g -> b.m.ownBlock ≠ some g)
theorem ApartK.snoc {ms : List Pk} (h : ApartK ms) (y : Pk) (hy : ∀ b ∈ ms,∀ g,b.m.ownBlock = some g -> y.m.ownBlock ≠ some g) : ApartK (ms ++ [y]) :=
  List.pairwise_append.2 ⟨h,List.pairwise_singleton _ _,fun a ha b hb => by simp only [List.mem_singleton] at hb;subst hb;exact hy a ha⟩
set_option maxHeartbeats 1600000 in
theorem implPagesOf_any (v : Value) (rs : List (Int × Int × Int)) (w : World) (hfit : FitRuns rs) (r : ReadsR 3 runC w.heap.size w v rs) :
    Calls Tryz.prog 160 #[v] w fun e w' => ∃ v' : Value,e = .returned v' /\ w'.ownsRow w.heap.size 2 1 v' (pagesOf rs).length ((pagesOf rs).map (Value.int .i64)) /\ v' ≠ .slice none 0 0 /\ Below w.heap.size w w' := by
  obtain ⟨i0,hi,hz0,hz1,hz2⟩ := info_parts Tryz.infoI64;have own0 : (w.alloc (.cells #[] 2)).ownsRow w.heap.size 2 1 (.slice (some ⟨w.heap.size,0,none⟩) 0 0) 0 [] := World.ownsRow_lit w #[] 0 (Nat.le_refl _) (Nat.zero_le _) rfl;have d0 : Below w.heap.size w (w.alloc (.cells #[] 2)) := bw_alloc (Below.refl _ _);have r0 := (r.below d0).mono d0.size;clear r
  go_enter Tryz.func160,Tryz.ntmps160
  go_wp2_with fail
  generalize w.alloc (.cells #[] 2) = W0 at *;refine (implMapOk_any v rs _ hfit r0).mono ?_;rintro e w1 ⟨rfl,b1⟩;have r1 := (r0.below b1).mono b1.size;have own1 := owns_below own0 b1;have d1 := bw_call d0 b1;clear own0 d0 r0 b1;cases hok : mapOk rs
  · have HV : Hid (pagesOf rs = []) := by rw [Hid,pagesOf,if_neg (by rw [hok];simp)]
    have HO : Hid (w1.ownsRow w.heap.size 2 1 (.slice (some ⟨w.heap.size,0,none⟩) 0 0) 0 []) := own1;clear r1 own1
    go_wp2_with fail
    go_ret;exact ⟨.slice (some ⟨w.heap.size,0,none⟩) 0 0,rfl,by rw [HV.out];exact HO.out,by simp,d1⟩
  · have HV : Hid (pagesOf rs = (pages rs).filter (fun p => decide (0 <= p))) := by rw [Hid,pagesOf,if_pos hok]
    have HOK : Hid _ := hok;have HPM : Hid (∀ j,j < 16 -> -1 <= (pages rs).getD j 0) := fun j hj => (pages_range rs hok j hj).1
    clear hok
    go_wp2_with fail
    refine (pageByPlace_any v rs _ HOK.out r1).mono ?_;rintro e w3 ⟨c,rfl,hcl,b3⟩;have own3 := owns_below own1 b3;have d3 := bw_call d1 b3;have hpl := pages_length rs;have HIX : Hid (∀ j : Nat,j < 16 -> ∀ w : World,(Instr.index 168 (.agg c) (.int .i64 (j : Int))).run Tryz.prog w = .ok (.int .i64 ((pages rs).getD j 0)) w) := fun j hj w => index16 c j _ hj (arr_at (pages rs) c hcl j (by omega)) w
    obtain ⟨L,hL⟩ : ∃ L,pages rs = L := ⟨_,rfl⟩
    rw [hL] at HIX hpl HPM HV;have HPL : Hid (L.length = 16) := hpl;clear hL own1 d1 b3 hcl hpl r1
    go_wp2_with fail
    go_loopw [3,13] (fun q i wr => ∃ (k b cq : Nat) (xs : List Int),k <= 16 /\ i = .int .i64 k /\ xs = (L.take k).filter (fun p => decide (0 <= p)) /\ q = .slice (some ⟨b,0,none⟩) xs.length cq /\ wr.ownsRow w.heap.size 2 1 (.slice (some ⟨b,0,none⟩) xs.length cq) xs.length (xs.map (Value.int .i64)) /\ Below w.heap.size w wr) (fun _ i _ => 16 - (intOf i).toNat)
    case atStart => exact ⟨0,w.heap.size,0,[],Nat.zero_le _,rfl,by simp,rfl,own3,d3⟩
    case round =>
      clear own3 d3;obtain ⟨k,b,cq,xs,hk,rfl,hxs,rfl,own,hb⟩ := hrel;by_cases hlt : k < 16
      · have hix := HIX.out k hlt
        have hpm := HPM.out k hlt
        have hxl : xs.length <= 16 := by
          rw [hxs];have h1 : ((L.take k).filter (fun p => decide (0 <= p))).length <= (L.take k).length := List.length_filter_le _ _;rw [List.length_take] at h1
          omega
        have hft := filter_take L k (by have := HPL.out;omega);rw [<- hxs] at hft;have hgd : L.getD k 0 = L[k]'(by have := HPL.out;omega) := by rw [List.getD_eq_getElem?_getD,List.getElem?_eq_getElem (by have := HPL.out;omega)];rfl
        rw [<- hgd] at hft;have HFT : Hid _ := hft;clear hft hgd hxs;generalize L.getD k 0 = z at hix HFT hpm;have h0 : (0 : Int) <= (k : Int) := by omega
        have h1 : (k : Int) < 16 := by omega
        by_cases hz : 0 <= z
        · have HN : Hid (xs ++ [z] = (L.take (k + 1)).filter (fun p => decide (0 <= p))) := by rw [Hid,HFT.out,if_pos hz]
          have hzb : (z != -1) = true := by rw [bne_iff_ne];omega
          go_wp2_with (at_builtin;refine wpList_append_own _ rfl _ _ 37 rfl w.heap.size 2 i0 (.int .i64 0) 1 8 Tryz.underlying37 hi hz0 hz1 hz2 rfl (by decide) _ _ _ rfl (own.alloc _) ⟨wr.heap.size,0,none⟩ 1 1 [.int .i64 z] rfl rfl ?c1 ?c2 ?c3 ?c4 ?c5 ?_)
          case c1 => exact new_one _ _ _
          case c2 => intro u hu;simp at hu;subst hu;rfl
          case c3 => unfold maxLen;omega
          case c4 => omega
          case c5 => have := hb.size;simp;omega
          intro v' w4 hown' hgrow hnil;have own4 : w4.ownsRow w.heap.size 2 1 v' (xs ++ [z]).length ((xs ++ [z]).map (Value.int .i64)) := by simpa using hown'
          obtain ⟨b',cq',hv'⟩ : ∃ b' cq',v' = .slice (some ⟨b',0,none⟩) (xs ++ [z]).length cq' := by
            rcases own4.2 with ⟨e,_⟩ | ⟨b',cq',_,e,_⟩
            · exact absurd e hnil
            · exact ⟨b',cq',e⟩
          have hb4 : Below w.heap.size w w4 := (bw_alloc hb).grown hgrow (by have := hb.size;simp;omega) (fun q hq => (own.lt q (by simpa [Value.ownBlock] using hq)).1);subst hv';have HO : Hid _ := And.intro own4 hb4;clear hown' hgrow hnil own4 hb4 own
          go_wp2_with fail
          go_roundw
          case rel => exact ⟨k + 1,b',cq',xs ++ [z],by omega,by go_num,HN.out,by simp,HO.out.1,HO.out.2⟩
          case measure => simp [intOf];omega
        · obtain rfl : z = -1 := by omega
          have HN : Hid (xs = (L.take (k + 1)).filter (fun p => decide (0 <= p))) := by rw [Hid,HFT.out,if_neg hz,List.append_nil]
          clear hz
          go_wp2_with fail
          go_roundw
          case rel => exact ⟨k + 1,b,cq,xs,by omega,by go_num,HN.out,rfl,own,hb⟩
          case measure => simp [intOf];omega
      · obtain rfl : k = 16 := by omega
        have hfin : L.take 16 = L := List.take_of_length_le (by rw [HPL.out];exact Nat.le_refl _);rw [hfin] at hxs;have HXL : Hid (xs = L.filter (fun p => decide (0 <= p))) := hxs;clear hxs hfin
        go_wp2_with fail
        go_ret;rw [HV.out,<- HXL.out];exact ⟨_,rfl,own,by simp,hb⟩
end Go.Proofs.YtcefcglonooelaaGreatDoor
