import Derived.Test.YtmnhnhjefocicaaGreatDoorM06
import Derived.Test.YtmnhnhjefocicaaGreatDoorM14
import Derived.Test.YtmnhnhjefocicaaGreatDoorM15
import Derived.Test.YtmnhnhjefocicaaGreatDoorM19
import Derived.Test.YtmnhnhjefocicaaGreatDoorM20
import Derived.Test.YtmnhnhjefocicaaGreatDoorM22
import Derived.Test.YtmnhnhjefocicaaGreatDoorM23
import Derived.Test.YtmnhnhjefocicaaGreatDoorM24
import Derived.Test.YtmnhnhjefocicaaGreatDoorM25
namespace Go.Proofs.YtmnhnhjefocicaaGreatDoor
open Go.RowKit
set_option linter.unusedVariables false
set_option maxRecDepth 100000
set_option maxHeartbeats 6400000 in
theorem l8Do_9 (base b : Nat) (v1 v2 vb : Value) (bks : List Bk) (s : Sf) (nm ot : ByteArray) (at_ va ep : Int) (w : World) (hn : nm.size <= maxLen) (ho : ot.size <= maxLen) (inv : ShInv s) (st : ShSt base b w v1 v2 vb bks s) (hok : opOk ⟨9,nm,ot,at_,va,ep⟩ = true) (href : refused s.bs ⟨9,nm,ot,at_,va,ep⟩ = 0) :
    Calls Tryz.prog 68 #[.pointer (some ⟨b,0,none⟩),.agg #[.int .i64 9,.string nm,.string ot,.int .i64 at_,.int .i64 va,.int .i64 ep]] w (DoPost base b v1 v2 s ⟨9,nm,ot,at_,va,ep⟩ w) := by
  obtain ⟨i,hi,hib,hfp,hfb,hat,hbk⟩ := found (o := ⟨9,nm,ot,at_,va,ep⟩) st href (show (9 : Int) ≠ 1 by decide);have ha16 := at_lt inv hok href (show (9 : Int) ≠ 1 by decide);simp only at hfp hfb hbk ha16;have hmap := (book_parts (inv.oks _ (List.getElem_mem hib))).2.2.2.1;have HD : Hid (doOp s ⟨9,nm,ot,at_,va,ep⟩ = doKind s ⟨9,nm,ot,at_,va,ep⟩ i s.bs[i] ((pages s.bs[i].rs).getD at_.toNat 0)) := do_kind hok href (show (9 : Int) ≠ 1 /\ (9 : Int) ≠ 6 /\ kOther 9 = false by decide) hfp hbk ha16.2;obtain ⟨ob,cap,hvf⟩ := own_slice st.books.row;subst hvf;have hbase : base <= w.heap.size := Nat.le_trans st.lo (Nat.le_of_lt (heap_lt st.box));have hfew : bks.length <= 6 := by rw [st.len];exact inv.few
  obtain ⟨W0,hW0,k0,k1,d0,z0⟩ := box2 w #[.int .i64 9,.string nm,.string ot,.int .i64 at_,.int .i64 va,.int .i64 ep] #[.int .i64 0,.int .i64 0] 26 30;have HW0 : Hid (W0 = _) := hW0;have st0 := st.below d0;clear hW0 z0
  go_enter Tryz.func68,Tryz.ntmps68
  go_wp2_with fail
  rw [<- HW0.out];clear HW0;refine (specOpOk_any 9 nm ot at_ va ep _ hn ho).mono ?_;rintro e w1 ⟨rfl,b1⟩;rw [hok];replace k0 := (b1.block _ (heap_lt k0)).trans k0;replace k1 := (b1.block _ (heap_lt k1)).trans k1;replace st0 := st0.below b1;replace d0 := bw_call d0 b1;clear b1;have hne := BelowOf.any w1;have rb : ReadsR 5 bookC w1.heap.size w1 (.slice ob bks.length cap) bks := ReadsR.of_own bookC_len st0.books.row;have hfm := st0.forms
  have H1 : ∀ q : BelowOf w1,Calls Tryz.prog 103 #[.slice ob bks.length cap,.agg #[.int .i64 9,.string nm,.string ot,.int .i64 at_,.int .i64 va,.int .i64 ep]] q.w' fun e w' => e = .returned (.int .i64 0) /\ Below q.w'.heap.size q.w' w' := fun q => by
    have h := l8Refused_any (.slice ob bks.length cap) bks 9 nm ot at_ va ep q.w' (by omega) (rb.of (Nat.le_refl _) q) hfm;rw [st.eq,href] at h;exact h
  have c0 := BelowOf.cell (v := .int .i64 9) (at_cell k0 0) (heap_lt k0);have c1 := BelowOf.cell (v := .string nm) (at_cell k0 1) (heap_lt k0);have c2 := BelowOf.cell (v := .string ot) (at_cell k0 2) (heap_lt k0);have c3 := BelowOf.cell (v := .int .i64 at_) (at_cell k0 3) (heap_lt k0);have c4 := BelowOf.cell (v := .int .i64 va) (at_cell k0 4) (heap_lt k0);have c5 := BelowOf.cell (v := .int .i64 ep) (at_cell k0 5) (heap_lt k0);have cB := BelowOf.cell (v := .slice ob bks.length cap) (at_cell st0.box 2) (heap_lt st0.box)
  go_wp2_with fail
  refine wp_region_of (by kernel_rfl) (by kernel_rfl) ?_
  repeat (go_big_quiet_step ((first | (go_at_call 103;with_reducible exact calls_of (H1 _)) | rfl)))
  refine wpQuiet_nil ?_;intro w2 hw2;obtain ⟨⟨wx,cx⟩,hwx⟩ := hw2;have b2 : Below w1.heap.size w1 w2 := by rw [hwx];exact cx
  clear hwx cx wx hne c0 c1 c2 c3 c4 c5 cB H1 rb;replace k0 := (b2.block _ (heap_lt k0)).trans k0;replace k1 := (b2.block _ (heap_lt k1)).trans k1;replace st0 := st0.below b2;replace d0 := bw_call d0 b2;clear b2;have hne := BelowOf.any w2;have rb : ReadsR 5 bookC w2.heap.size w2 (.slice ob bks.length cap) bks := ReadsR.of_own bookC_len st0.books.row
  have H2 : ∀ q : BelowOf w2,Calls Tryz.prog 104 #[.slice ob bks.length cap,.string nm] q.w' fun e w' => e = .returned (.int .i64 i) /\ w' = q.w' := fun q => by
    have h := specFindBook_any (.slice ob bks.length cap) bks nm q.w' (rb.of (Nat.le_refl _) q);rw [hfb] at h;exact h
  have c1 := BelowOf.cell (v := .string nm) (at_cell k0 1) (heap_lt k0);have cB := BelowOf.cell (v := .slice ob bks.length cap) (at_cell st0.box 2) (heap_lt st0.box)
  go_wp2_with fail
  refine wp_region_of (by kernel_rfl) (by kernel_rfl) ?_
  repeat (go_big_quiet_step ((first | (go_at_call 104;with_reducible exact calls_of_same (H2 _)) | rfl)))
  refine wpQuiet_nil ?_;intro w3 hw3;obtain ⟨⟨wx,cx⟩,hwx⟩ := hw3;have b3 : Below w2.heap.size w2 w3 := by rw [hwx];exact cx
  clear hwx cx wx hne c1 cB H2 rb;replace k0 := (b3.block _ (heap_lt k0)).trans k0;replace k1 := (b3.block _ (heap_lt k1)).trans k1;replace st0 := st0.below b3;replace d0 := bw_call d0 b3;clear b3;obtain ⟨g,hob⟩ := row_block st0.books.row (by omega);subst hob;obtain ⟨⟨a0,a1,a2,a3,a4⟩,e0,e1,e2,e3,e4⟩ := own_five st0.books.row i hi;have rm : ReadsR 3 runC w3.heap.size w3 bks[i].m bks[i].rs := ReadsR.of_own runC_len (st0.books.maps _ (List.getElem_mem hi));rw [hat] at hmap HD
  obtain ⟨x,hx⟩ : ∃ x,bks[i] = x := ⟨_,rfl⟩
  have HX : Hid (bks[i] = x) := hx;rw [hx] at a0 a1 a2 a3 a4 rm hmap HD;clear hx;obtain ⟨xn,xz,xm,rs,xf,xe⟩ := x;simp only [Bk.pb] at a0 a1 a2 a3 a4 rm hmap HD;obtain ⟨mo,mc,hmf⟩ := rm.form;subst hmf;have HMP : Hid _ := hmap;have hpl := pages_length rs;have pB := at_cell st0.box 2;have p0 := at_cell k0 0;have p3 := at_cell k0 3;have i0 : (0 : Int) <= (i : Int) := by omega
  have i1 : (i : Int) < (bks.length : Int) := by omega
  obtain ⟨a,haa⟩ := Int.eq_ofNat_of_zero_le ha16.1;subst haa;clear hmap e0 e1 e2 e3 e4 a0 a1 a3 a4 hat hbk hfp hfb
  go_wp2_with fail
  refine (l5Pages_any _ rs _ HMP.out rm).mono ?_;rintro e w4 ⟨gp,cp,rfl,ownp,b4⟩;replace k0 := (b4.block _ (heap_lt k0)).trans k0;replace k1 := (b4.block _ (heap_lt k1)).trans k1;have stP := st0.pool;replace st0 := st0.below b4;replace d0 := bw_call d0 b4;have hpa : a < (pages rs).length := by rw [hpl];omega
  have cA := (ownp.cellAt a (by omega)).trans (getD_some (pages rs) a hpa);have a0' : (0 : Int) <= (a : Int) := by omega
  have a1' : (a : Int) < 16 := by omega
  clear b4 rm pB p0 p3 a2;rw [Int.toNat_natCast] at HD;have hpr := pages_range rs HMP.out a (by omega);have HPGS : Hid _ := fun (h : 0 <= (pages rs).getD a 0) => inv.page i hib ((pages rs).getD a 0) (by rw [show s.bs[i].rs = rs by have h1 := st.eq;simp only [<- h1,List.getElem_map,HX.out,Bk.pb]];exact (mem_getD _ hpl _).2 ⟨a,by omega,rfl⟩) h
  obtain ⟨page,hpage⟩ : ∃ page,(pages rs).getD a 0 = page := ⟨_,rfl⟩
  rw [hpage] at cA hpr HPGS HD;clear hpage;have p0 := at_cell k0 0;have p3 := at_cell k0 3;by_cases hpg : page < 0
  · have HS : Hid _ := do_end (show doOp s ⟨9,nm,ot,(a : Int),va,ep⟩ = (s,(0,0)) by rw [HD.out,kind_9,if_pos hpg]) (Nat.le_succ_of_le hbase) k1 st0 (d0.mono hbase)
    have q0 := at_cell k1 0;have q1 := at_cell k1 1;have f0 := at_open k1 0;have f1 := at_open k1 1;clear k0 k1 st0 d0 st HD
    go_wp2_with fail
    exact bodyPost_ret (v := .agg #[.int .i64 0,.int .i64 0]) (by simp [results,Tryz.results68,go_sem,at_cell HS.out.1]) rfl HS.out.2
  · obtain ⟨kp,hkp⟩ := Int.eq_ofNat_of_zero_le (show 0 <= page by omega)
    subst hkp;obtain ⟨hk1,hk2⟩ := HPGS.out (by omega);have hpp := inv.cells.p;have HS : Hid _ := do_end (show doOp s ⟨9,nm,ot,(a : Int),va,ep⟩ = (s,(0,s.ps.getD kp 0)) by rw [HD.out,kind_9,if_neg hpg,Int.toNat_natCast]) (Nat.le_succ_of_le hbase) k1 st0 (d0.mono hbase);have hkl : kp < s.ps.length := by rw [hpp];omega
    obtain ⟨o2,c2,hv2⟩ := own_slice st0.pool.p;have cP := st0.pool.p;subst hv2;obtain ⟨g2,hg2⟩ := row_block1 cP (by omega);subst hg2;have cV := (cP.cellAt kp (by omega)).trans (getD_some s.ps kp hkl);have b1 := at_cell st0.box 1;have j0 : (0 : Int) <= (kp : Int) := by omega
    have j1 : (kp : Int) < (s.ps.length : Int) := by omega
    have q0 := at_cell k1 0;have q1 := at_cell k1 1;have f0 := at_open k1 0;have f1 := at_open k1 1;clear k0 k1 st0 d0 st HD cP;generalize s.ps.getD kp 0 = val at *
    go_wp2_with fail
    exact bodyPost_ret (v := .agg #[.int .i64 0,.int .i64 val]) (by simp [results,Tryz.results68,go_sem,at_cell HS.out.1]) rfl HS.out.2
theorem l8Do_any (base b : Nat) (v1 v2 vb : Value) (bks : List Bk) (s : Sf) (k : Int) (nm ot : ByteArray) (at_ va ep : Int) (w : World) (hn : nm.size <= maxLen) (ho : ot.size <= maxLen) (inv : ShInv s) (st : ShSt base b w v1 v2 vb bks s) :
    Calls Tryz.prog 68 #[.pointer (some ⟨b,0,none⟩),.agg #[.int .i64 k,.string nm,.string ot,.int .i64 at_,.int .i64 va,.int .i64 ep]] w (DoPost base b v1 v2 s ⟨k,nm,ot,at_,va,ep⟩ w) := by
  cases hok : opOk ⟨k,nm,ot,at_,va,ep⟩
  · exact l8Do_bad base b v1 v2 vb bks s k nm ot at_ va ep w hn ho inv st hok
  · by_cases href : refused s.bs ⟨k,nm,ot,at_,va,ep⟩ = 0
    · have hk := (opOk_bd _ hok).1
      simp only at hk;have h : k = 1 \/ k = 2 \/ k = 3 \/ k = 4 \/ k = 5 \/ k = 6 \/ k = 7 \/ k = 8 \/ k = 9 := by omega
      rcases h with rfl | rfl | rfl | rfl | rfl | rfl | rfl | rfl | rfl
      · exact l8Do_1 base b v1 v2 vb bks s nm ot at_ va ep w hn ho inv st hok href
      · exact l8Do_2 base b v1 v2 vb bks s nm ot at_ va ep w hn ho inv st hok href
      · exact l8Do_3 base b v1 v2 vb bks s nm ot at_ va ep w hn ho inv st hok href
      · exact l8Do_4 base b v1 v2 vb bks s nm ot at_ va ep w hn ho inv st hok href
      · exact l8Do_5 base b v1 v2 vb bks s nm ot at_ va ep w hn ho inv st hok href
      · exact l8Do_6 base b v1 v2 vb bks s nm ot at_ va ep w hn ho inv st hok href
      · exact l8Do_7 base b v1 v2 vb bks s nm ot at_ va ep w hn ho inv st hok href
      · exact l8Do_8 base b v1 v2 vb bks s nm ot at_ va ep w hn ho inv st hok href
      · exact l8Do_9 base b v1 v2 vb bks s nm ot at_ va ep w hn ho inv st hok href
    · exact l8Do_refd base b v1 v2 vb bks s k nm ot at_ va ep w hn ho inv st hok href
structure ReadsS (w : World) (v1 v2 vb : Value) (s : Sf) : Prop where
  c : Reads w.heap.size w v1 (s.cs.map (Value.int .i64))
  p : Reads w.heap.size w v2 (s.ps.map (Value.int .i64))
  b : ∃ bks : List Bk,ReadsB w.heap.size w vb bks /\ bks.map Bk.pb = s.bs
theorem ReadsS.below {w w' : World} {v1 v2 vb : Value} {s : Sf} (h : ReadsS w v1 v2 vb s) (k : Below w.heap.size w w') : ReadsS w' v1 v2 vb s := by
  obtain ⟨bks,h1,h2⟩ := h.b;exact ⟨(h.c.below k).mono k.size,(h.p.below k).mono k.size,bks,(h1.below k).mono k.size,h2⟩
structure OwnD (base : Nat) (w : World) (v1 v2 vb : Value) (s : Sf) : Prop where
  p : OwnP base w v1 v2 s.cs s.ps
  b : ∃ bks : List Bk,OwnB base w vb bks /\ bks.map Bk.pb = s.bs
theorem OwnD.below {base : Nat} {w w' : World} {v1 v2 vb : Value} {s : Sf} (h : OwnD base w v1 v2 vb s) (k : Below w.heap.size w w') : OwnD base w' v1 v2 vb s := by
  obtain ⟨bks,h1,h2⟩ := h.b;exact ⟨h.p.below k,bks,h1.below k,h2⟩
theorem OwnD.upto {base c : Nat} {w w' : World} {v1 v2 vb : Value} {s : Sf} (h : OwnD base w v1 v2 vb s) (u : Upto c w w') (hc : c < base) : OwnD base w' v1 v2 vb s := by
  obtain ⟨bks,h1,h2⟩ := h.b;exact ⟨h.p.upto u hc,bks,h1.upto u hc,h2⟩
theorem OwnD.mono {base base' : Nat} {w : World} {v1 v2 vb : Value} {s : Sf} (h : OwnD base w v1 v2 vb s) (k : base' <= base) : OwnD base' w v1 v2 vb s := by
  obtain ⟨bks,h1,h2⟩ := h.b;exact ⟨h.p.mono k,bks,h1.mono k,h2⟩
theorem OwnD.reads {base : Nat} {w : World} {v1 v2 vb : Value} {s : Sf} (h : OwnD base w v1 v2 vb s) : ReadsS w v1 v2 vb s := by
  obtain ⟨bks,h1,h2⟩ := h.b;exact ⟨Reads.of_own h.p.c,Reads.of_own h.p.p,bks,h1.reads,h2⟩
theorem OwnD.nil (base : Nat) (w : World) : OwnD base w (.slice none 0 0) (.slice none 0 0) (.slice none 0 0) ⟨[],[],[]⟩ := ⟨OwnP.nil _ _,[],⟨World.ownsRow_nil _ _ _ _,fun b hb => by cases hb⟩,rfl⟩
theorem did_reads {base b c d : Nat} {W : World} {u1 u2 ub : Value} {bks : List Bk} {s : Sf} (st : ShSt base b W u1 u2 ub bks s) (hc : c < base) (hd : d < base) (y0 y1 y2 y3 y4 : Value) : OwnD base (((((W.setCell ⟨c,0,none⟩ y0).setCell ⟨c,1,none⟩ y1).setCell ⟨c,2,none⟩ y2).setCell ⟨d,0,none⟩ y3).setCell ⟨d,1,none⟩ y4).drew u1 u2 ub s /\ OwnD base (((((W.setCell ⟨d,0,none⟩ y3).setCell ⟨d,1,none⟩ y4).setCell ⟨c,0,none⟩ y0).setCell ⟨c,1,none⟩ y1).setCell ⟨c,2,none⟩ y2).drew u1 u2 ub s := by
  have ua : ∀ X : World,Upto c X (((X.setCell ⟨c,0,none⟩ y0).setCell ⟨c,1,none⟩ y1).setCell ⟨c,2,none⟩ y2) := fun X => (((Upto.refl _ _).setCell ⟨c,0,none⟩ (.inl rfl) _).setCell ⟨c,1,none⟩ (.inl rfl) _).setCell ⟨c,2,none⟩ (.inl rfl) _
  have ud : ∀ X : World,Upto d X ((X.setCell ⟨d,0,none⟩ y3).setCell ⟨d,1,none⟩ y4) := fun X => ((Upto.refl _ _).setCell ⟨d,0,none⟩ (.inl rfl) _).setCell ⟨d,1,none⟩ (.inl rfl) _
  have h0 : OwnD base W u1 u2 ub s := ⟨st.pool,bks,st.books,st.eq⟩
  exact ⟨((h0.upto (ua _) hc).upto (ud _) hd).below ((Below.refl _ _).drew),((h0.upto (ud _) hd).upto (ua _) hc).below ((Below.refl _ _).drew)⟩
set_option maxHeartbeats 3200000 in
theorem specDidO_any (v1 v2 vb : Value) (cs ps : List Int) (bks : List Bk) (k : Int) (nm ot : ByteArray) (at_ va ep : Int) (w : World) (hnb : ∀ b ∈ bks,b.nm.size <= maxLen) (hn : nm.size <= maxLen) (ho : ot.size <= maxLen) (r1 : Reads w.heap.size w v1 (cs.map (Value.int .i64))) (r2 : Reads w.heap.size w v2 (ps.map (Value.int .i64))) (rb : ReadsB w.heap.size w vb bks) :
    Calls Tryz.prog 23 #[.agg #[v1,v2,vb],.agg #[.int .i64 k,.string nm,.string ot,.int .i64 at_,.int .i64 va,.int .i64 ep]] w fun e w' => ∃ u1 u2 ub : Value,e = .returned (.tuple #[.agg #[u1,u2,ub],.agg #[.int .i64 (didOp ⟨cs,ps,bks.map Bk.pb⟩ ⟨k,nm,ot,at_,va,ep⟩).2.1,.int .i64 (didOp ⟨cs,ps,bks.map Bk.pb⟩ ⟨k,nm,ot,at_,va,ep⟩).2.2]]) /\ OwnD w.heap.size w' u1 u2 ub (didOp ⟨cs,ps,bks.map Bk.pb⟩ ⟨k,nm,ot,at_,va,ep⟩).1 /\ Below w.heap.size w w' := by
  obtain ⟨o1,cp1,f1,-,-,-⟩ := id r1;obtain ⟨o2,cp2,f2,-,-,-⟩ := id r2;obtain ⟨ob,cpb,f3,-,-,-⟩ := id rb.row;simp only [List.length_map] at f1 f2;subst f1 f2 f3;obtain ⟨Wa,hWa,ka,kb,da,za⟩ := box2 w #[.slice o1 cs.length cp1,.slice o2 ps.length cp2,.slice ob bks.length cpb] #[.int .i64 k,.string nm,.string ot,.int .i64 at_,.int .i64 va,.int .i64 ep] 42 26;obtain ⟨W0,hW0,kc,kd,d0,z0⟩ := box2 Wa #[.slice none 0 0,.slice none 0 0,.slice none 0 0] #[.int .i64 0,.int .i64 0] 42 30;rw [za] at kc kd;rw [hWa] at hW0;have HW0 : Hid (W0 = _) := hW0;replace ka := (d0.block _ (heap_lt ka)).trans ka;replace kb := (d0.block _ (heap_lt kb)).trans kb;replace d0 := bw_call da d0;have s1 := (r1.below d0).mono d0.size;have s2 := (r2.below d0).mono d0.size;have sb := (rb.below d0).mono d0.size;clear hW0 hWa za z0 da r1 r2 rb
  go_enter Tryz.func23,Tryz.ntmps23
  go_wp2_with fail
  rw [<- HW0.out];clear HW0;refine (specShelfOk_any _ _ _ cs ps bks _ hnb s1 s2 sb).mono ?_;rintro e w1 ⟨rfl,b1⟩;replace ka := (b1.block _ (heap_lt ka)).trans ka;replace kb := (b1.block _ (heap_lt kb)).trans kb;replace kc := (b1.block _ (heap_lt kc)).trans kc;replace kd := (b1.block _ (heap_lt kd)).trans kd;replace d0 := bw_call d0 b1;replace s1 := (s1.below b1).mono b1.size;replace s2 := (s2.below b1).mono b1.size;replace sb := (sb.below b1).mono b1.size;have lc1 := heap_lt kc;have ld1 := heap_lt kd;clear b1
  obtain ⟨bs,hbs⟩ : ∃ bs,bks.map Bk.pb = bs := ⟨_,rfl⟩
  rw [hbs];have n1 : ¬ w.heap.size + 1 + 1 = w.heap.size + 1 + 1 + 1 := by omega
  have n2 : ¬ w.heap.size + 1 + 1 + 1 = w.heap.size + 1 + 1 := by omega
  cases hok : shelfOk ⟨cs,ps,bs⟩
  · have HV : Hid (didOp ⟨cs,ps,bs⟩ ⟨k,nm,ot,at_,va,ep⟩ = (⟨[],[],[]⟩,(1,0))) := didOp_no hok
    have HB : Hid _ := hbs;have q0 := at_cell kc 0;have q1 := at_cell kc 1;have q2 := at_cell kc 2;obtain ⟨f0,f1,f2⟩ := o3 kc;have q3 := at_cell kd 0;have q4 := at_cell kd 1;have f3 := at_open kd 0;have f4 := at_open kd 1;have HS : Hid _ := did_end (w := w) kc kd n1 (by omega) d0 (.slice none 0 0) (.slice none 0 0) (.slice none 0 0) (.int .i64 1) (.int .i64 0);clear ka kb kc kd d0 s1 s2 sb hok hbs
    go_wp2_with fail
    exact bodyPost_ret (v := .tuple #[.agg #[.slice none 0 0,.slice none 0 0,.slice none 0 0],.agg #[.int .i64 1,.int .i64 0]]) (by simp [results,Tryz.results23,go_sem,at_cell HS.out.1,at_cell HS.out.2.1]) rfl ⟨_,_,_,by rw [HB.out,HV.out],by rw [HB.out,HV.out];exact OwnD.nil _ _,HS.out.2.2⟩
  · have HV : Hid (didOp ⟨cs,ps,bs⟩ ⟨k,nm,ot,at_,va,ep⟩ = doOp ⟨cs,ps,bs⟩ ⟨k,nm,ot,at_,va,ep⟩) := didOp_yes hok
    have HB : Hid _ := hbs;have inv := (shelfOk_iff _).1 hok;have h24 := inv.n1;have HPP : Hid (ps.length = cs.length) := inv.cells.p;have hfew : bks.length <= 6 := by have h := inv.few;simp only at h;rw [<- hbs,List.length_map] at h;exact h
    have hrs : ∀ b ∈ bks,b.rs.length <= 1048576 := fun b hb => by
      have h := (book_parts (inv.oks b.pb (by rw [<- hbs];exact List.mem_map_of_mem hb))).2.2.2.1;rw [mapOk,Bool.and_eq_true,decide_eq_true_iff] at h;have := h.2;simp only [Bk.pb] at this
      omega
    simp only at h24;have a0 := at_cell ka 0;have a1 := at_cell ka 1;have a2 := at_cell ka 2;clear hok
    go_wp2_with fail
    clear a0 a1 a2;refine (l8Copy_any _ _ _ cs ps bks _ (by omega) (by have := HPP.out;omega) hfew hrs s1 s2 sb).mono ?_;rintro e w2 ⟨u1,u2,ub,ms,rfl,ownP,ownB,hms,b2⟩;obtain ⟨p1,q1,hf1⟩ := own_slice ownP.c;obtain ⟨p2,q2,hf2⟩ := own_slice ownP.p;obtain ⟨p3,q3,hf3⟩ := own_slice ownB.row;subst hf1 hf2 hf3;replace ka := (b2.block _ (heap_lt ka)).trans ka;replace kb := (b2.block _ (heap_lt kb)).trans kb;replace kc := (b2.block _ (heap_lt kc)).trans kc;replace kd := (b2.block _ (heap_lt kd)).trans kd;have lc := heap_lt kc;have ld := heap_lt kd;obtain ⟨W3,hW3,k6,d3,z3⟩ := box1 w2 #[.slice p1 cs.length q1,.slice p2 ps.length q2,.slice p3 ms.length q3] 42;have HW3 : Hid (W3 = _) := hW3
    have st : ShSt w1.heap.size w2.heap.size W3 (.slice p1 cs.length q1) (.slice p2 ps.length q2) (.slice p3 ms.length q3) ms ⟨cs,ps,bs⟩ := ⟨k6,b2.size,ownP.below d3,ownB.below d3,by rw [hms,hbs]⟩
    have b23 : Below w1.heap.size w1 W3 := bw_call b2 d3;have lb := heap_lt kb;obtain ⟨c0,c1,c2,c3,c4,c5⟩ := c6 kb;replace kc := (d3.block _ (heap_lt kc)).trans kc;replace kd := (d3.block _ (heap_lt kd)).trans kd;clear hW3 z3 k6 s1 s2 sb ownP ownB ka
    go_wp2_with fail
    rw [<- HW3.out];clear HW3 c0 c1 c2 c3 c4 c5 lb kb;refine (l8Do_any w1.heap.size w2.heap.size _ _ _ ms ⟨cs,ps,bs⟩ k nm ot at_ va ep _ hn ho inv st).mono ?_;rintro e w4 ⟨vb',bks',rfl,st4,b4⟩;obtain ⟨p4,q4,hf4⟩ := own_slice st4.books.row;subst hf4
    obtain ⟨⟨s',c',v'⟩,hdo⟩ : ∃ x,doOp ⟨cs,ps,bs⟩ ⟨k,nm,ot,at_,va,ep⟩ = x := ⟨_,rfl⟩
    rw [hdo] at HV st4;rw [hdo];simp only at st4 ⊢;replace kc := (b4.block _ lc1).trans kc;replace kd := (b4.block _ ld1).trans kd;have d4 := d0.trans ((b23.trans b4).mono d0.size);obtain ⟨W5,hW5,k7,d5,z5⟩ := box1 w4 #[.int .i64 c',.int .i64 v'] 30;have HW5 : Hid (W5 = _) := hW5;have st5 := st4.below d5;replace kc := (d5.block _ (heap_lt kc)).trans kc;replace kd := (d5.block _ (heap_lt kd)).trans kd;replace d4 := bw_call d4 d5;clear hW5 z5;have hb26 := st5.lo;have hb4s := Nat.lt_of_lt_of_le (heap_lt st4.box) (Nat.le_refl _);have m1 : ¬ w.heap.size + 1 + 1 = w2.heap.size := by omega
    have m2 : ¬ w2.heap.size = w.heap.size + 1 + 1 := by omega
    have m3 : ¬ w.heap.size + 1 + 1 + 1 = w2.heap.size := by omega
    have m4 : ¬ w2.heap.size = w.heap.size + 1 + 1 + 1 := by omega
    have m5 : ¬ w.heap.size + 1 + 1 = w4.heap.size := by omega
    have m6 : ¬ w4.heap.size = w.heap.size + 1 + 1 := by omega
    have m7 : ¬ w.heap.size + 1 + 1 + 1 = w4.heap.size := by omega
    have m8 : ¬ w4.heap.size = w.heap.size + 1 + 1 + 1 := by omega
    have HE1 : Hid _ := did_end (w := w) kc kd n1 (by omega) d4 (.slice p1 cs.length q1) (.slice p2 ps.length q2) (.slice p4 bks'.length q4) (.int .i64 c') (.int .i64 v');have HE2 : Hid _ := did_end2 (w := w) kc kd n1 (by omega) d4 (.slice p1 cs.length q1) (.slice p2 ps.length q2) (.slice p4 bks'.length q4) (.int .i64 c') (.int .i64 v');have HRS : Hid _ := did_reads st5 lc1 ld1 (.slice p1 cs.length q1) (.slice p2 ps.length q2) (.slice p4 bks'.length q4) (.int .i64 c') (.int .i64 v');have g0 : W5.drew.cell? ⟨w2.heap.size,0,none⟩ = some (.slice p1 cs.length q1) := at_cell st5.box 0;have g1 : W5.drew.cell? ⟨w2.heap.size,1,none⟩ = some (.slice p2 ps.length q2) := at_cell st5.box 1;have g2 : W5.drew.cell? ⟨w2.heap.size,2,none⟩ = some (.slice p4 bks'.length q4) := at_cell st5.box 2;have g3 : W5.drew.cell? ⟨w4.heap.size,0,none⟩ = some (.int .i64 c') := at_cell k7 0;have g4 : W5.drew.cell? ⟨w4.heap.size,1,none⟩ = some (.int .i64 v') := at_cell k7 1;have t0 : W5.drew.cell? ⟨w.heap.size + 1 + 1,0,none⟩ = some (.slice none 0 0) := at_cell kc 0;have t1 : W5.drew.cell? ⟨w.heap.size + 1 + 1,1,none⟩ = some (.slice none 0 0) := at_cell kc 1;have t2 : W5.drew.cell? ⟨w.heap.size + 1 + 1,2,none⟩ = some (.slice none 0 0) := at_cell kc 2;have t3 : W5.drew.cell? ⟨w.heap.size + 1 + 1 + 1,0,none⟩ = some (.int .i64 0) := at_cell kd 0;have t4 : W5.drew.cell? ⟨w.heap.size + 1 + 1 + 1,1,none⟩ = some (.int .i64 0) := at_cell kd 1;have y0 : W5.drew.frozen? ⟨w.heap.size + 1 + 1,0,none⟩ = false := at_open kc 0;have y1 : W5.drew.frozen? ⟨w.heap.size + 1 + 1,1,none⟩ = false := at_open kc 1;have y2 : W5.drew.frozen? ⟨w.heap.size + 1 + 1,2,none⟩ = false := at_open kc 2;have y3 : W5.drew.frozen? ⟨w.heap.size + 1 + 1 + 1,0,none⟩ = false := at_open kd 0;have y4 : W5.drew.frozen? ⟨w.heap.size + 1 + 1 + 1,1,none⟩ = false := at_open kd 1;have g0n := at_cell st5.box 0;have g1n := at_cell st5.box 1;have g2n := at_cell st5.box 2;have g3n := at_cell k7 0;have g4n := at_cell k7 1;have t0n := at_cell kc 0;have t1n := at_cell kc 1;have t2n := at_cell kc 2;have t3n := at_cell kd 0;have t4n := at_cell kd 1;obtain ⟨y0n,y1n,y2n⟩ := o3 kc;have y3n := at_open kd 0;have y4n := at_open kd 1;clear st st4 st5 kc kd k7 d4 d0 d3 d5 b2 b4 b23 hms hdo inv hb4s
    go_wp2_with fail
    rw [<- HW5.out];clear HW5
    go_region
    all_goals go_wp2_with fail
    all_goals first
      | exact bodyPost_ret (v := .tuple #[.agg #[.slice p1 cs.length q1,.slice p2 ps.length q2,.slice p4 bks'.length q4],.agg #[.int .i64 c',.int .i64 v']]) (by simp [results,Tryz.results23,go_sem,at_cell HE1.out.1,at_cell HE1.out.2.1]) rfl ⟨_,_,_,by rw [HB.out,HV.out],by rw [HB.out,HV.out];exact HRS.out.1.mono (by omega),HE1.out.2.2.drew⟩
      | exact bodyPost_ret (v := .tuple #[.agg #[.slice p1 cs.length q1,.slice p2 ps.length q2,.slice p4 bks'.length q4],.agg #[.int .i64 c',.int .i64 v']]) (by simp [results,Tryz.results23,go_sem,at_cell HE2.out.1,at_cell HE2.out.2.1]) rfl ⟨_,_,_,by rw [HB.out,HV.out],by rw [HB.out,HV.out];exact HRS.out.2.mono (by omega),HE2.out.2.2.drew⟩
end Go.Proofs.YtmnhnhjefocicaaGreatDoor
namespace Go.Proofs.YtmnhnhjefocicaaGreatDoor
theorem taken_none (cs ps : List Int) (v : Int) (h : poolOk cs ps = true) (hf : ¬ (firstFree cs < cs.length /\ 0 <= v /\ v <= 999)) : takenPage cs ps v = ((cs,ps),-1) := by rw [takenPage,if_pos h,if_neg hf]
theorem taken_some (cs ps : List Int) (v : Int) (h : poolOk cs ps = true) (hf : firstFree cs < cs.length /\ 0 <= v /\ v <= 999) : takenPage cs ps v = ((cs.set (firstFree cs) 1,ps.set (firstFree cs) v),(firstFree cs : Int)) := by rw [takenPage,if_pos h,if_pos hf]
end Go.Proofs.YtmnhnhjefocicaaGreatDoor
