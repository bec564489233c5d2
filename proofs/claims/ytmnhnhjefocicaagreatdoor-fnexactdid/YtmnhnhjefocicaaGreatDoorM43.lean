import Derived.Deep.RegionHeld3
import Derived.Deep.DeepCutAuto
import Derived.Laws.Cover1
import Derived.Test.YtmnhnhjefocicaaGreatDoorM08
import Derived.Test.YtmnhnhjefocicaaGreatDoorM12
import Derived.Test.YtmnhnhjefocicaaGreatDoorM27
import Derived.Test.YtmnhnhjefocicaaGreatDoorM30
import Derived.Test.YtmnhnhjefocicaaGreatDoorM36
import Derived.Test.YtmnhnhjefocicaaGreatDoorM37
import Derived.Test.YtmnhnhjefocicaaGreatDoorM39
import Derived.Test.YtmnhnhjefocicaaGreatDoorM40
import Derived.Test.YtmnhnhjefocicaaGreatDoorM41
import Derived.Test.YtmnhnhjefocicaaGreatDoorM42
namespace Go.Proofs.YtmnhnhjefocicaaGreatDoor
open Go.RowKit
set_option linter.unusedVariables false
set_option maxRecDepth 100000
set_option maxHeartbeats 3200000 in
theorem changed_8 (base : Nat) (v1 v2 vb : Value) (cs ps : List Int) (bks : List Bk) (nm ot : ByteArray) (at_ va ep : Int) (w : World) (ad : Nat -> Addr) (hv : Vars w ad) (hbase : base <= w.heap.size) (inv : ShInv ⟨cs,ps,bks.map Bk.pb⟩) (ho : opOk ⟨8,nm,ot,at_,va,ep⟩ = true) (hr : refused (bks.map Bk.pb) ⟨8,nm,ot,at_,va,ep⟩ = 0) (own : OwnS base w v1 v2 vb cs ps bks) :
    Calls Tryz.prog 131 #[.agg #[v1,v2,vb],.agg #[.int .i64 8,.string nm,.string ot,.int .i64 at_,.int .i64 va,.int .i64 ep]] w fun e w' => ChPost ad base (doOp ⟨cs,ps,bks.map Bk.pb⟩ ⟨8,nm,ot,at_,va,ep⟩) e w' /\ Below w.heap.size w w' := by
  have F := ch_facts inv;obtain ⟨i,hi,hat,hop⟩ := op_in inv ho hr (fun h => by cases h);have HAT : Hid (findB bks nm = (i : Int)) := hat;have HOP : Hid _ := hop;clear hat hop;have hep := F.ep bks[i] (List.getElem_mem hi);have hl6 := F.few
  obtain ⟨E,hE⟩ : ∃ E,bks[i].ep + 1 = E := ⟨_,rfl⟩
  have HE : Hid (bks[i].ep + 1 = E) := hE;clear hE;have hms : ∀ b ∈ bks,∃ o k cap,b.m = .slice o k cap := fun b hb => by obtain ⟨o,c,h⟩ := own_slice (own.b.maps b hb);exact ⟨o,_,c,h⟩
  have HMS : Hid _ := hms;obtain ⟨o1,k1,o2,k2,ob,kb,rfl,rfl,rfl⟩ := own.forms;obtain ⟨W0,hW0,kA,kO,kR,d0,z0⟩ := box3 w #[.slice o1 cs.length k1,.slice o2 ps.length k2,.slice ob bks.length kb] #[.int .i64 8,.string nm,.string ot,.int .i64 at_,.int .i64 va,.int .i64 ep] #[.slice none 0 0,.slice none 0 0,.slice none 0 0] 42 26 42;have HW0 : Hid (W0 = _) := hW0;have own0 := own.below d0;have hv0 := hv.below d0;have zr : w.heap.size + 1 + 1 < W0.heap.size := by omega
  have hb0 : base <= W0.heap.size := by omega
  have HF : Hid _ := F;have HINV : Hid _ := inv;clear hW0 z0 own hv hms F inv ho hr hbase
  go_enter Tryz.func131,Tryz.ntmps131
  go_wp2_with fail
  rw [<- HW0.out];clear HW0;have hfb : ∀ (v : Value) (w : World) (r : ReadsR 5 bookC w.heap.size w v bks),_ := fun v w r => implFindBook_any v bks nm w HMS.out r
  obtain ⟨fi,hfi⟩ : ∃ fi,findB bks nm = fi := ⟨_,rfl⟩
  simp only [hfi] at hfb;have HFI : Hid (findB bks nm = fi) := hfi;clear hfi;refine (hfb _ _ own0.b.reads.row).mono ?_;rintro e w1 ⟨rfl,b1⟩;have kA1 := (b1.block _ (heap_lt kA)).trans kA;have kO1 := (b1.block _ (heap_lt kO)).trans kO;have kR1 := (b1.block _ (heap_lt kR)).trans kR;have own1 := own0.below b1;have hv1 := hv0.below b1;have d1 := bw_call d0 b1;have hb1 : base <= w1.heap.size := Nat.le_trans hb0 b1.size;have hlt1 : w.heap.size + 1 + 1 < w1.heap.size := Nat.lt_of_lt_of_le zr b1.size;clear b1 kA kO kR own0 hv0 d0 hb0 zr hfb;have hfi2 := HFI.out;rw [HAT.out] at hfi2;subst hfi2;have p0 := at_cell kA1 0;have p1 := at_cell kA1 1;have p2 := at_cell kA1 2;have q0 := at_cell kO1 0;have q1 := at_cell kO1 1;have q2 := at_cell kO1 2;have q3 := at_cell kO1 3;have q4 := at_cell kO1 4;have q5 := at_cell kO1 5
  go_wp2_with fail
  clear p0 p1 p2 q0 q1 q2 q3 q4 q5;refine (attached_any base i _ _ _ cs ps bks _ hb1 hi hl6 hep own1).mono ?_;rintro e w2 ⟨ub,rfl,ow2,b2⟩
  obtain ⟨N,hN⟩ : ∃ N,bks.set i ⟨bks[i].nm,bks[i].sz,bks[i].m,bks[i].rs,bks[i].fx,bks[i].ep + 1⟩ = N := ⟨_,rfl⟩
  have HN : Hid (bks.set i ⟨bks[i].nm,bks[i].sz,bks[i].m,bks[i].rs,bks[i].fx,bks[i].ep + 1⟩ = N) := hN;rw [hN] at ow2;rw [HE.out];clear hN;obtain ⟨_,_,_,_,o6,c6,-,-,hub⟩ := ow2.forms;subst hub;have kR2 := (b2.block _ (heap_lt kR1)).trans kR1;have d2 := bw_call d1 b2;have hs := shelf_put (w := w) kR2 (by omega) d2 (.slice o1 cs.length k1) (.slice o2 ps.length k2) (.slice o6 N.length c6);have ow3 := OwnS.answer ow2 kR2 hs.2.1;have r0 := at_cell kR2 0;have r1 := at_cell kR2 1;have r2 := at_cell kR2 2;obtain ⟨e0,e1,e2⟩ := o3 kR2
  obtain ⟨W3,hW3⟩ : ∃ W3 : World,W3 = ((w2.setCell ⟨w.heap.size + 1 + 1,0,none⟩ (.slice o1 cs.length k1)).setCell ⟨w.heap.size + 1 + 1,1,none⟩ (.slice o2 ps.length k2)).setCell ⟨w.heap.size + 1 + 1,2,none⟩ (.slice o6 N.length c6) := ⟨_,rfl⟩
  rw [<- hW3] at hs ow3;have HW3 : Hid (W3 = _) := hW3;clear hW3 ow2 b2 kA1 kO1 own1 hv1 d1 kR1
  go_upto_region 20 with fail
  rw [<- HW3.out];clear HW3 r0 r1 r2 e0 e1 e2 kR2;have HS : Hid _ := shelf_put (w := w) hs.1 (by omega) hs.2.2 (.slice o1 cs.length k1) (.slice o2 ps.length k2) (.slice o6 N.length c6);have HG : Hid _ := OwnS.answer ow3 hs.1 HS.out.2.1;have r0 := at_cell hs.1 0;have r1 := at_cell hs.1 1;have r2 := at_cell hs.1 2;obtain ⟨e0,e1,e2⟩ := o3 hs.1;clear hs ow3 d2
  go_wp2_with fail
  exact bodyPost_ret (v := .tuple #[.agg #[.slice o1 cs.length k1,.slice o2 ps.length k2,.slice o6 N.length c6],.int .i64 E,.nilIface]) (by simp [results,Tryz.results131,go_sem,at_cell HS.out.1]) rfl ⟨by
    rw [ch_attach hi HOP.out bks[i].m,HN.out,HE.out]
    exact .inl ⟨rfl,_,_,_,_,rfl,⟨HG.out.1,HG.out.2,HG.out.3⟩,rfl⟩,HS.out.2.2⟩
set_option maxHeartbeats 3200000 in
theorem changed_9 (base : Nat) (v1 v2 vb : Value) (cs ps : List Int) (bks : List Bk) (nm ot : ByteArray) (at_ va ep : Int) (w : World) (ad : Nat -> Addr) (hv : Vars w ad) (hbase : base <= w.heap.size) (inv : ShInv ⟨cs,ps,bks.map Bk.pb⟩) (ho : opOk ⟨9,nm,ot,at_,va,ep⟩ = true) (hr : refused (bks.map Bk.pb) ⟨9,nm,ot,at_,va,ep⟩ = 0) (own : OwnS base w v1 v2 vb cs ps bks) :
    Calls Tryz.prog 131 #[.agg #[v1,v2,vb],.agg #[.int .i64 9,.string nm,.string ot,.int .i64 at_,.int .i64 va,.int .i64 ep]] w fun e w' => ChPost ad base (doOp ⟨cs,ps,bks.map Bk.pb⟩ ⟨9,nm,ot,at_,va,ep⟩) e w' /\ Below w.heap.size w w' := by
  have F := ch_facts inv;obtain ⟨i,hi,hat,hop⟩ := op_in inv ho hr (fun h => by cases h);have HAT : Hid (findB bks nm = (i : Int)) := hat;have HOP : Hid _ := hop;clear hat hop;have hfit := F.fit bks[i] (List.getElem_mem hi);have hpi := page_in inv i hi at_
  obtain ⟨V,hV⟩ : ∃ V,(if pageOf bks[i].rs at_ < 0 then 0 else ps.getD (pageOf bks[i].rs at_).toNat 0) = V := ⟨_,rfl⟩
  have HVV : Hid ((if pageOf bks[i].rs at_ < 0 then 0 else ps.getD (pageOf bks[i].rs at_).toNat 0) = V) := hV;clear hV;have HPI : Hid _ := hpi;clear hpi;have hms : ∀ b ∈ bks,∃ o k cap,b.m = .slice o k cap := fun b hb => by obtain ⟨o,c,h⟩ := own_slice (own.b.maps b hb);exact ⟨o,_,c,h⟩
  have HMS : Hid _ := hms;obtain ⟨o1,k1,o2,k2,ob,kb,rfl,rfl,rfl⟩ := own.forms;obtain ⟨W0,hW0,kA,kO,kR,d0,z0⟩ := box3 w #[.slice o1 cs.length k1,.slice o2 ps.length k2,.slice ob bks.length kb] #[.int .i64 9,.string nm,.string ot,.int .i64 at_,.int .i64 va,.int .i64 ep] #[.slice none 0 0,.slice none 0 0,.slice none 0 0] 42 26 42;have HW0 : Hid (W0 = _) := hW0;have own0 := own.below d0;have hv0 := hv.below d0;have zr : w.heap.size + 1 + 1 < W0.heap.size := by omega
  have hb0 : base <= W0.heap.size := by omega
  have HF : Hid _ := F;have HINV : Hid _ := inv;clear hW0 z0 own hv hms F inv ho hr hbase
  go_enter Tryz.func131,Tryz.ntmps131
  go_wp2_with fail
  rw [<- HW0.out];clear HW0;have hfb : ∀ (v : Value) (w : World) (r : ReadsR 5 bookC w.heap.size w v bks),_ := fun v w r => implFindBook_any v bks nm w HMS.out r
  obtain ⟨fi,hfi⟩ : ∃ fi,findB bks nm = fi := ⟨_,rfl⟩
  simp only [hfi] at hfb;have HFI : Hid (findB bks nm = fi) := hfi;clear hfi;refine (hfb _ _ own0.b.reads.row).mono ?_;rintro e w1 ⟨rfl,b1⟩;have kA1 := (b1.block _ (heap_lt kA)).trans kA;have kO1 := (b1.block _ (heap_lt kO)).trans kO;have kR1 := (b1.block _ (heap_lt kR)).trans kR;have own1 := own0.below b1;have hv1 := hv0.below b1;have d1 := bw_call d0 b1;have hb1 : base <= w1.heap.size := Nat.le_trans hb0 b1.size;have hlt1 : w.heap.size + 1 + 1 < w1.heap.size := Nat.lt_of_lt_of_le zr b1.size;clear b1 kA kO kR own0 hv0 d0 hb0 zr hfb;have hfi2 := HFI.out;rw [HAT.out] at hfi2;subst hfi2;have HVA : ∀ (v1 v2 vb : Value) (w : World) (own : OwnS base w v1 v2 vb cs ps bks),_ := fun v1 v2 vb w own => valueAt_any base i at_ v1 v2 vb cs ps bks w hi hfit HPI.out.2 HPI.out.1 own
  simp only [HVV.out] at HVA;have p0 := at_cell kA1 0;have p1 := at_cell kA1 1;have p2 := at_cell kA1 2;have q0 := at_cell kO1 0
  go_upto_region 19 with fail
  clear p0 p1 p2 q0
  have HKeep : ∀ X,Below w1.heap.size w1 X -> (X.cell? ⟨w.heap.size,0,none⟩ = some (.slice o1 cs.length k1) /\ X.cell? ⟨w.heap.size,1,none⟩ = some (.slice o2 ps.length k2) /\ X.cell? ⟨w.heap.size,2,none⟩ = some (.slice ob bks.length kb) /\ X.cell? ⟨w.heap.size + 1,3,none⟩ = some (.int .i64 at_)) := fun X hb => by
    have x1 := (hb.block _ (heap_lt kA1)).trans kA1;have x2 := (hb.block _ (heap_lt kO1)).trans kO1;exact ⟨at_cell x1 0,at_cell x1 1,at_cell x1 2,at_cell x2 3⟩
  have HKeep2 : ∀ (X : World) (z0 z1 z2 : Value),Below w1.heap.size w1 X -> ((((X.setCell ⟨w.heap.size + 1 + 1,0,none⟩ z0).setCell ⟨w.heap.size + 1 + 1,1,none⟩ z1).setCell ⟨w.heap.size + 1 + 1,2,none⟩ z2).cell? ⟨w.heap.size,0,none⟩ = some (.slice o1 cs.length k1) /\ (((X.setCell ⟨w.heap.size + 1 + 1,0,none⟩ z0).setCell ⟨w.heap.size + 1 + 1,1,none⟩ z1).setCell ⟨w.heap.size + 1 + 1,2,none⟩ z2).cell? ⟨w.heap.size,1,none⟩ = some (.slice o2 ps.length k2) /\ (((X.setCell ⟨w.heap.size + 1 + 1,0,none⟩ z0).setCell ⟨w.heap.size + 1 + 1,1,none⟩ z1).setCell ⟨w.heap.size + 1 + 1,2,none⟩ z2).cell? ⟨w.heap.size,2,none⟩ = some (.slice ob bks.length kb) /\ (((X.setCell ⟨w.heap.size + 1 + 1,0,none⟩ z0).setCell ⟨w.heap.size + 1 + 1,1,none⟩ z1).setCell ⟨w.heap.size + 1 + 1,2,none⟩ z2).cell? ⟨w.heap.size + 1,3,none⟩ = some (.int .i64 at_)) := fun X z0 z1 z2 hb => by
    have u : Upto (w.heap.size + 1 + 1) X (((X.setCell ⟨w.heap.size + 1 + 1,0,none⟩ z0).setCell ⟨w.heap.size + 1 + 1,1,none⟩ z1).setCell ⟨w.heap.size + 1 + 1,2,none⟩ z2) := (((Upto.refl _ _).setCell ⟨_,0,none⟩ (.inl rfl) _).setCell ⟨_,1,none⟩ (.inl rfl) _).setCell ⟨_,2,none⟩ (.inl rfl) _;have x1 := (hb.block _ (heap_lt kA1)).trans kA1;have x2 := (hb.block _ (heap_lt kO1)).trans kO1;have x1 := (u.block _ (heap_lt x1) (by omega)).trans x1;have x2 := (u.block _ (heap_lt x2) (by omega)).trans x2;exact ⟨at_cell x1 0,at_cell x1 1,at_cell x1 2,at_cell x2 3⟩
  have A1 : Below w1.heap.size w1 w1.drew := bw_drew (Below.refl _ _);have ownd := own1.below A1
  go_region_held3 (fun w' => w'.cell? ⟨w.heap.size,0,none⟩ = some (.slice o1 cs.length k1) /\ w'.cell? ⟨w.heap.size,1,none⟩ = some (.slice o2 ps.length k2) /\ w'.cell? ⟨w.heap.size,2,none⟩ = some (.slice ob bks.length kb) /\ w'.cell? ⟨w.heap.size + 1,3,none⟩ = some (.int .i64 at_))
    ((first | (refine HKeep2 _ _ _ _ ?_;exact A8) | (refine HKeep _ ?_;repeat (first | exact Below.refl _ _ | exact A8 | refine bw_drew ?_))))
    ((go_at_call 115;refine (HVA _ _ _ _ ownd).mono ?_;rintro e w8 ⟨rfl,b8⟩;have A8 : Below w1.heap.size w1 w8 := bw_call A1 b8;have kR8 := (A8.block _ (heap_lt kR1)).trans kR1;have r0 := at_cell kR8 0;have r1 := at_cell kR8 1;have r2 := at_cell kR8 2;have e0 := at_open kR8 0;have e1 := at_open kR8 1;have e2 := at_open kR8 2;skip))
  all_goals
    have hs := shelf_put (w := w) kR8 (by omega) (bw_call d1 A8) (.slice o1 cs.length k1) (.slice o2 ps.length k2) (.slice ob bks.length kb);have ow3 := OwnS.answer (own1.below A8) kR8 hs.2.1
    obtain ⟨W3,hW3⟩ : ∃ W3 : World,W3 = ((w8.setCell ⟨w.heap.size + 1 + 1,0,none⟩ (.slice o1 cs.length k1)).setCell ⟨w.heap.size + 1 + 1,1,none⟩ (.slice o2 ps.length k2)).setCell ⟨w.heap.size + 1 + 1,2,none⟩ (.slice ob bks.length kb) := ⟨_,rfl⟩
    rw [<- hW3] at hs ow3 ⊢;have d2 := hs.2.2;have kR3 := hs.1;clear hW3 hs kR8 A8 b8 ownd A1 HKeep HKeep2 kA1 kO1 own1 hv1 d1 kR1 HVA r0 r1 r2 e0 e1 e2;have HS : Hid _ := shelf_put (w := w) kR3 (by omega) d2 (.slice o1 cs.length k1) (.slice o2 ps.length k2) (.slice ob bks.length kb);have HG : Hid _ := OwnS.answer ow3 kR3 HS.out.2.1;have r0 := at_cell kR3 0;have r1 := at_cell kR3 1;have r2 := at_cell kR3 2;obtain ⟨e0,e1,e2⟩ := o3 kR3;clear ow3 d2 kR3
    go_wp2_with fail
    exact bodyPost_ret (v := .tuple #[.agg #[.slice o1 cs.length k1,.slice o2 ps.length k2,.slice ob bks.length kb],.int .i64 V,.nilIface]) (by simp [results,Tryz.results131,go_sem,at_cell HS.out.1]) rfl ⟨by
      rw [ch_read hi HOP.out,HVV.out]
      exact .inl ⟨rfl,_,_,_,_,rfl,⟨HG.out.1,HG.out.2,HG.out.3⟩,rfl⟩,HS.out.2.2⟩
theorem changed_any (k : Int) (base : Nat) (v1 v2 vb : Value) (cs ps : List Int) (bks : List Bk) (nm ot : ByteArray) (at_ va ep : Int) (w : World) (ad : Nat -> Addr) (hv : Vars w ad) (hbase : base <= w.heap.size) (inv : ShInv ⟨cs,ps,bks.map Bk.pb⟩) (ho : opOk ⟨k,nm,ot,at_,va,ep⟩ = true) (hr : refused (bks.map Bk.pb) ⟨k,nm,ot,at_,va,ep⟩ = 0) (own : OwnS base w v1 v2 vb cs ps bks) :
    Calls Tryz.prog 131 #[.agg #[v1,v2,vb],.agg #[.int .i64 k,.string nm,.string ot,.int .i64 at_,.int .i64 va,.int .i64 ep]] w fun e w' => ChPost ad base (doOp ⟨cs,ps,bks.map Bk.pb⟩ ⟨k,nm,ot,at_,va,ep⟩) e w' /\ Below w.heap.size w w' := by
  have hk : 1 <= k /\ k <= 9 := (op_parts ho).2.1;have h : k = 1 \/ k = 2 \/ k = 3 \/ k = 4 \/ k = 5 \/ k = 6 \/ k = 7 \/ k = 8 \/ k = 9 := by omega
  rcases h with rfl | rfl | rfl | rfl | rfl | rfl | rfl | rfl | rfl
  · exact changed_1 base v1 v2 vb cs ps bks nm ot at_ va ep w ad hv hbase inv ho hr own
  · exact changed_2 base v1 v2 vb cs ps bks nm ot at_ va ep w ad hv hbase inv ho hr own
  · exact changed_3 base v1 v2 vb cs ps bks nm ot at_ va ep w ad hv hbase inv ho hr own
  · exact changed_4 base v1 v2 vb cs ps bks nm ot at_ va ep w ad hv hbase inv ho hr own
  · exact changed_5 base v1 v2 vb cs ps bks nm ot at_ va ep w ad hv hbase inv ho hr own
  · exact changed_6 base v1 v2 vb cs ps bks nm ot at_ va ep w ad hv hbase inv ho hr own
  · exact changed_7 base v1 v2 vb cs ps bks nm ot at_ va ep w ad hv hbase inv ho hr own
  · exact changed_8 base v1 v2 vb cs ps bks nm ot at_ va ep w ad hv hbase inv ho hr own
  · exact changed_9 base v1 v2 vb cs ps bks nm ot at_ va ep w ad hv hbase inv ho hr own
end Go.Proofs.YtmnhnhjefocicaaGreatDoor
namespace Go.Proofs.YtmnhnhjefocicaaGreatDoor
open Go.RowKit
set_option linter.unusedVariables false
def rowB (bs : List Pb) : Bool := decide (bs.length <= 6) && bs.all Pb.ok && sortedB (bs.map Pb.nm)
theorem shelfOk_parts (s : Sf) : shelfOk s = (poolOk s.cs s.ps && rowB s.bs && countsOk s.cs s.bs) := by simp [shelfOk,rowB,Bool.and_assoc]
theorem row_no_many {bs : List Pb} (h : 6 < bs.length) : rowB bs = false := by
  have h6 : ¬ bs.length <= 6 := by omega
  simp [rowB,h6]
theorem row_no_book {bs : List Pb} (i : Nat) (hi : i < bs.length) (h : bs[i].ok = false) : rowB bs = false := by
  have : bs.all Pb.ok = false := by rw [List.all_eq_false];exact ⟨bs[i],List.getElem_mem hi,by rw [h];decide⟩
  simp [rowB,this]
theorem row_no_order {bs : List Pb} (i : Nat) (hi : i + 1 < bs.length) (h : ltB bs[i].nm bs[i + 1].nm = false) : rowB bs = false := by
  have : sortedB (bs.map Pb.nm) = false := sorted_not _ i (by simpa using hi) (by simpa using h);simp [rowB,this]
theorem row_yes {bs : List Pb} (h2 : bs.length <= 6) (h3 : ∀ (i : Nat) (hi : i < bs.length),bs[i].ok = true) (h4 : ∀ (i : Nat) (hi : i + 1 < bs.length),ltB (bs[i]'(by omega)).nm bs[i + 1].nm = true) : rowB bs = true := by
  have h5 : sortedB (bs.map Pb.nm) = true := sorted_adj _ (fun j h1 => by simpa using h4 j (by simpa using h1));have h6 : bs.all Pb.ok = true := List.all_eq_true.2 (fun b hb => by obtain ⟨j,hj,rfl⟩ := List.getElem_of_mem hb;exact h3 j hj);simp [rowB,h2,h5,h6]
theorem row_parts {bs : List Pb} (h : rowB bs = true) : bs.length <= 6 /\ ∀ (i : Nat) (hi : i < bs.length),bs[i].ok = true := by
  simp only [rowB,Bool.and_eq_true,decide_eq_true_eq] at h;exact ⟨h.1.1,fun i hi => List.all_eq_true.1 h.1.2 _ (List.getElem_mem hi)⟩
set_option maxRecDepth 100000 in
set_option maxHeartbeats 6400000 in
theorem rowOk_any (vb : Value) (bks : List Bk) (w : World) (hn : ∀ b ∈ bks,b.nm.size <= maxLen) (hf : ∀ b ∈ bks,FitRuns b.rs) (rb : ReadsB w.heap.size w vb bks) :
    Calls Tryz.prog 52 #[vb] w fun e w' => e = .returned (.bool (rowB (bks.map Bk.pb))) /\ Below w.heap.size w w' := by
  have HN : Hid _ := hn;have HF : Hid _ := hf;obtain ⟨ob,cpb,f3,mb,cb,-⟩ := rb.row;subst f3;unfold maxLen at mb;have CB : Hid _ := five_cells cb;have RM : Hid _ := rb.maps;clear hn hf rb cb
  obtain ⟨bs,hbs⟩ : ∃ bs,bks.map Bk.pb = bs := ⟨_,rfl⟩
  have hbl : bs.length = bks.length := by rw [<- hbs,List.length_map]
  have HAT : Hid (∀ (i : Nat) (h1 : i < bks.length) (h2 : i < bs.length),bs[i] = bks[i].pb) := fun i h1 h2 => by subst hbs;simp
  rw [hbs];have HBL : Hid (bs.length = bks.length) := hbl;clear hbs hbl;by_cases hmany : 6 < bks.length
  · have HV : Hid (rowB bs = false) := row_no_many (by rw [HBL.out];exact hmany)
    have h6 : (6 : Int) < (bks.length : Int) := by omega
    go_enter Tryz.func52,Tryz.ntmps52
    go_wp2_with fail
    go_ret;exact ⟨ret_bool HV.out.symm,Below.refl _ _⟩
  have h6 : ¬ (6 : Int) < (bks.length : Int) := by omega
  go_enter Tryz.func52,Tryz.ntmps52
  go_wp2_with fail
  go_loopw [10] (fun i wr => ∃ q : Nat,q <= bks.length /\ i = .int .i64 q /\ (∀ j (hj : j < bs.length),j < q -> bs[j].ok = true) /\ (∀ j (hj : j + 1 < bs.length),j + 1 < q -> ltB (bs[j]'(by omega)).nm bs[j + 1].nm = true) /\ Below w.heap.size w wr) (fun i _ => bks.length - (intOf i).toNat)
  case atStart => exact ⟨0,Nat.zero_le _,rfl,fun j _ h => by omega,fun j _ h => by omega,Below.refl _ _⟩
  case round =>
    obtain ⟨q,hq,rfl,hoks,hsrt,hb⟩ := hrel;have HOKS : Hid _ := hoks;have HSRT : Hid _ := hsrt;clear hoks hsrt;by_cases hlt : q < bks.length
    · obtain ⟨g,off,rfl,hg,a0,a1,a2,a3,a4⟩ := CB.out q hlt
      have hltb : q < bs.length := by have := HBL.out;omega
      have rm := (RM.out bks[q] (List.getElem_mem hlt)).below hb;have hnm := HN.out bks[q] (List.getElem_mem hlt);have hfr := HF.out bks[q] (List.getElem_mem hlt);have hat := HAT.out q hlt hltb
      have HPREV : Hid (∀ q',q = q' + 1 -> ∃ (h : q' < bs.length),wr.cell? ⟨g,off + q' * 5,none⟩ = some (.string bs[q'].nm)) := fun q' e => by
        have hl' : q' < bks.length := by omega
        obtain ⟨g',off',e',hg',c0,-⟩ := CB.out q' hl';cases e';have hl2 : q' < bs.length := by have := HBL.out;omega
        refine ⟨hl2,?_⟩;rw [HAT.out q' hl' hl2];exact (hb.cell (p := ⟨g,off + q' * 5,none⟩) hg).trans c0
      obtain ⟨x,hx⟩ : ∃ x,bks[q] = x := ⟨_,rfl⟩
      rw [hx] at a0 a1 a2 a3 a4 rm hnm hat hfr;clear hx;obtain ⟨nm,sz,m,rs,fx,ep⟩ := x;simp only at a0 a1 a2 a3 a4 rm hnm hfr;obtain ⟨o',cap',hm'⟩ := rm.form;subst hm';have lg : g < wr.heap.size := Nat.lt_of_lt_of_le hg hb.size;replace a0 := (hb.cell (p := ⟨g,off + q * 5,none⟩) hg).trans a0;replace a1 := (hb.cell (p := ⟨g,off + q * 5 + 1,none⟩) hg).trans a1;replace a2 := (hb.cell (p := ⟨g,off + q * 5 + 2,none⟩) hg).trans a2;replace a3 := (hb.cell (p := ⟨g,off + q * 5 + 3,none⟩) hg).trans a3;replace a4 := (hb.cell (p := ⟨g,off + q * 5 + 4,none⟩) hg).trans a4;obtain ⟨WB,hWB,kB,dB,zB⟩ := box1 wr #[.string nm,.int .i64 sz,.slice o' rs.length cap',.bool fx,.int .i64 ep] 96;have HWB : Hid (WB = _) := hWB;have lB : wr.heap.size < WB.heap.size := heap_lt kB;have lg2 : g < WB.heap.size := by omega
      have hbB := bw_call hb dB
      obtain ⟨okv,hok⟩ : ∃ x,bookOk nm sz rs ep = x := ⟨_,rfl⟩
      have HBO : Hid (bs[q].ok = okv) := by rw [Hid,hat];exact hok
      have HBN : Hid (bs[q].nm = nm) := by rw [Hid,hat];rfl
      have rmB := rm.below ((dB.mono hb.size));have HOK : Hid (bookOk nm sz rs ep = okv) := hok
      have HP2 : Hid (∀ q',q = q' + 1 -> ∃ (h : q' < bs.length),WB.cell? ⟨g,off + q' * 5,none⟩ = some (.string bs[q'].nm)) := fun q' e => by
        obtain ⟨h,c⟩ := HPREV.out q' e;exact ⟨h,(dB.cell (p := ⟨g,off + q' * 5,none⟩) lg).trans c⟩
      have i0 : (0 : Int) <= (q : Int) := by omega
      have i1 : (q : Int) < (bks.length : Int) := by omega
      clear hok hat hWB zB rm HPREV
      go_upto_region 6 with fail
      rw [<- HWB.out];have hne := BelowOf.any WB;have c0 := BelowOf.cell (v := .string nm) (at_cell kB 0) lB;have c1 := BelowOf.cell (v := .int .i64 sz) (at_cell kB 1) lB;have c2 := BelowOf.cell (v := .slice o' rs.length cap') (at_cell kB 2) lB;have c3 := BelowOf.cell (v := .bool fx) (at_cell kB 3) lB;have c4 := BelowOf.cell (v := .int .i64 ep) (at_cell kB 4) lB;have HBK : ∀ z : BelowOf WB,Calls Tryz.prog 106 #[.agg #[.string nm,.int .i64 sz,.slice o' rs.length cap',.bool fx,.int .i64 ep]] z.w' fun e w' => e = .returned (.bool okv) /\ Below z.w'.heap.size z.w' w' := fun z => by have h := implBookOk_any nm sz _ rs fx ep z.w' hnm hfr (rmB.of hbB.size z);rwa [HOK.out] at h
      clear a0 a1 a2 a3 a4 HWB dB
      go_cut [32] (fun v wx => ∃ y : Bool,v = .bool y /\ (y = true -> rowB bs = false) /\ (y = false -> okv = true /\ ∀ q',q = q' + 1 -> ∀ (h : q' < bs.length),ltB bs[q'].nm nm = true) /\ Below WB.heap.size WB wx)
      case first =>
        cases okv
        · have HV : Hid _ := row_no_book q hltb HBO.out
          refine wp_region_of (by kernel_rfl) (by kernel_rfl) ?_
          repeat (go_big_quiet_step ((first | (go_at_call 106;exact calls_of (HBK _)) | rfl)))
          refine wpQuiet_nil ?_;intro w5 hw5;obtain ⟨⟨wx,cx⟩,hwx⟩ := hw5;have b5 : Below WB.heap.size WB w5 := by rw [hwx];exact cx
          clear hwx cx wx
          go_wp2_with fail
          go_meet
          exact ⟨true,rfl,fun _ => HV.out,(fun h => by cases h),b5⟩
        · rcases Nat.eq_zero_or_pos q with hq0 | hqp
          · have j2 : decide (0 < q) = false := decide_eq_false (by omega)
            have HQ0 : Hid (q = 0) := hq0;clear hq0;refine wp_region_of (by kernel_rfl) (by kernel_rfl) ?_
            repeat (go_big_quiet_step ((first | (go_at_call 106;exact calls_of (HBK _)) | rfl)))
            refine wpQuiet_nil ?_;intro w5 hw5;obtain ⟨⟨wx,cx⟩,hwx⟩ := hw5;have b5 : Below WB.heap.size WB w5 := by rw [hwx];exact cx
            clear hwx cx wx
            go_wp2_with fail
            go_meet
            exact ⟨false,rfl,(fun h => by cases h),(fun _ => ⟨by first | rfl | trivial,fun q' h => by have := HQ0.out;omega⟩),b5⟩
          · obtain ⟨q',hqq⟩ : ∃ q',q = q' + 1 := ⟨q - 1,by omega⟩
            have HQQ : Hid (q = q' + 1) := hqq;obtain ⟨hl2,cp⟩ := HP2.out q' hqq;have cP := BelowOf.cell cp lg2
            obtain ⟨pn,hpn⟩ : ∃ x,bs[q'].nm = x := ⟨_,rfl⟩
            have HPN : Hid (bs[q'].nm = pn) := hpn;rw [hpn] at cP;have hw1 : IntKind.i64.wrap ((q : Int) - 1) = q' := by rw [IntKind.wrap_i64];omega
            have hw2 : (q : Int) - 1 = q' := by omega
            have hw3 : IntKind.i64.wrap (q' : Int) = q' := by rw [IntKind.wrap_i64];omega
            have j0 : (0 : Int) <= (q' : Int) := by omega
            have j1 : (q' : Int) < (bks.length : Int) := by omega
            have j2 : decide (0 < q) = true := decide_eq_true (by omega)
            obtain ⟨ly,hly⟩ : ∃ y,Op.bytesLess pn.toList nm.toList = y := ⟨_,rfl⟩
            have HLY : Hid (ltB pn nm = ly) := hly;clear hpn cp hqq hqp;refine wp_region_of (by kernel_rfl) (by kernel_rfl) ?_
            repeat (go_big_quiet_step ((first | (go_at_call 106;exact calls_of (HBK _)) | rfl)))
            refine wpQuiet_nil ?_;intro w5 hw5;obtain ⟨⟨wx,cx⟩,hwx⟩ := hw5;have b5 : Below WB.heap.size WB w5 := by rw [hwx];exact cx
            clear hwx cx wx
            go_wp2_with fail
            go_meet
            refine ⟨(!ly),rfl,fun h => ?_,fun h => ⟨by first | rfl | trivial,fun q'' e hh => ?_⟩,b5⟩
            · have hf : ltB pn nm = false := by rw [HLY.out];simpa using h
              have hq1 := HQQ.out;subst hq1;exact row_no_order q' hltb (by rw [HPN.out,HBN.out];exact hf)
            · obtain rfl : q'' = q' := by have := HQQ.out;omega
              rw [HPN.out,HLY.out];simpa using h
      case rest =>
        obtain ⟨y,rfl,hy1,hy2,b5⟩ := hcut;have hbc := bw_call hbB b5;clear c0 c1 c2 c3 c4 HBK hne HP2 b5 kB;cases y
        · obtain ⟨hokv,hord⟩ := hy2 rfl
          have HOK2 : Hid (∀ j (hj : j < bs.length),j < q + 1 -> bs[j].ok = true) := fun j hj h => by
            rcases Nat.lt_or_ge j q with z | z
            · exact HOKS.out j hj z
            · obtain rfl : j = q := by omega
              rw [HBO.out];exact hokv
          have HSR2 : Hid (∀ j (hj : j + 1 < bs.length),j + 1 < q + 1 -> ltB (bs[j]'(by omega)).nm bs[j + 1].nm = true) := fun j hj h => by
            rcases Nat.lt_or_ge (j + 1) q with z | z
            · exact HSRT.out j hj z
            · obtain rfl : q = j + 1 := by omega
              have := hord j rfl (by omega)
              rwa [<- HBN.out] at this
          clear hy1 hy2 hord hokv
          go_wp2_with fail
          go_roundw
          case rel => exact ⟨q + 1,by omega,by go_num,HOK2.out,HSR2.out,hbc⟩
          case measure => simp [intOf];omega
        · have HV : Hid _ := hy1 rfl
          clear hy1 hy2
          go_wp2_with fail
          go_ret;exact ⟨ret_bool HV.out.symm,hbc⟩
    · have HV : Hid (rowB bs = true) := row_yes (by have := HBL.out;omega) (fun j hj => HOKS.out j hj (by have := HBL.out;omega)) (fun j hj => HSRT.out j hj (by have := HBL.out;omega))
      have hql : ¬ (q : Int) < (bks.length : Int) := by omega
      clear HOKS HSRT
      go_wp2_with fail
      go_ret;exact ⟨ret_bool HV.out.symm,hb⟩
end Go.Proofs.YtmnhnhjefocicaaGreatDoor
