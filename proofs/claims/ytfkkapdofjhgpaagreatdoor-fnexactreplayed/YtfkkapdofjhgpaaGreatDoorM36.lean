import Derived.Deep.RegionHeld3
import Derived.Deep.DeepCutAuto
import Derived.Laws.Cover1
import Derived.Test.YtfkkapdofjhgpaaGreatDoorM06
import Derived.Test.YtfkkapdofjhgpaaGreatDoorM08
import Derived.Test.YtfkkapdofjhgpaaGreatDoorM19
import Derived.Test.YtfkkapdofjhgpaaGreatDoorM23
import Derived.Test.YtfkkapdofjhgpaaGreatDoorM25
import Derived.Test.YtfkkapdofjhgpaaGreatDoorM30
import Derived.Test.YtfkkapdofjhgpaaGreatDoorM31
import Derived.Test.YtfkkapdofjhgpaaGreatDoorM33
import Derived.Test.YtfkkapdofjhgpaaGreatDoorM34
import Derived.Test.YtfkkapdofjhgpaaGreatDoorM35
set_option maxHeartbeats 12800000
namespace Go.Proofs.YtfkkapdofjhgpaaGreatDoor
open Go.RowKit
set_option linter.unusedVariables false
set_option maxRecDepth 100000
theorem zuh (base : Nat) (v1 v2 vb : Value) (cs ps : List Int) (bks : List Bk) (nm ot : ByteArray) (at_ va ep : Int) (w : World) (ad : Nat->Addr) (hv : Vars w ad) (hbase : base<=w.heap.size) (inv : ShInv ⟨cs,ps,bks.map Bk.pb⟩) (ho : opOk ⟨9,nm,ot,at_,va,ep⟩=true) (hr : za5 (bks.map Bk.pb) ⟨9,nm,ot,at_,va,ep⟩=0) (own : OwnS base w v1 v2 vb cs ps bks) :
    Calls Tryz.prog 208 #[.agg #[v1,v2,vb],.agg #[.int .i64 9,.string nm,.string ot,.int .i64 at_,.int .i64 va,.int .i64 ep]] w fun e w'=>ChPost ad base (doOp ⟨cs,ps,bks.map Bk.pb⟩ ⟨9,nm,ot,at_,va,ep⟩) e w'/\Below w.heap.size w w':=by
  have F:=zcm inv;obtain ⟨i,hi,hat,hop⟩:=zju inv ho hr (fun h=>by cases h);have HAT : Hid (zag bks nm=(i : Int)):=hat;have HOP : Hid _:=hop;clear hat hop;have hfit:=F.fit bks[i] (List.getElem_mem hi);have hpi:=zy6 inv i hi at_
  obtain ⟨V,hV⟩ : ∃ V,(if pageOf bks[i].rs at_ < 0 then 0 else ps.getD (pageOf bks[i].rs at_).toNat 0)=V:=⟨_,rfl⟩
  have HVV : Hid ((if pageOf bks[i].rs at_ < 0 then 0 else ps.getD (pageOf bks[i].rs at_).toNat 0)=V):=hV;clear hV;have HPI : Hid _:=hpi;clear hpi;have hms : ∀ b ∈ bks,∃ o k cap,b.m = .slice o k cap:=fun b hb=>by obtain ⟨o,c,h⟩:=za4 (own.b.maps b hb);exact ⟨o,_,c,h⟩
  have HMS : Hid _:=hms;obtain ⟨o1,k1,o2,k2,ob,kb,rfl,rfl,rfl⟩:=own.forms;obtain ⟨W0,hW0,kA,kO,kR,d0,z0⟩:=zg0 w #[.slice o1 cs.length k1,.slice o2 ps.length k2,.slice ob bks.length kb] #[.int .i64 9,.string nm,.string ot,.int .i64 at_,.int .i64 va,.int .i64 ep] #[.slice none 0 0,.slice none 0 0,.slice none 0 0] 30 37 30;have HW0 : Hid (W0 = _):=hW0;have own0:=own.below d0;have hv0:=hv.below d0;have zr : w.heap.size+1+1 < W0.heap.size:=by omega
  have hb0 : base<=W0.heap.size:=by omega
  have HF : Hid _:=F;have HINV : Hid _:=inv;clear hW0 z0 own hv hms F inv ho hr hbase
  go_enter Tryz.func208,Tryz.ntmps208
  go_wp2_with fail
  rw [<- HW0.out];clear HW0;have hfb : ∀ (v : Value) (w : World) (r : ReadsR 5 bookC w.heap.size w v bks),_:=fun v w r=>zal v bks nm w HMS.out r
  obtain ⟨fi,hfi⟩ : ∃ fi,zag bks nm=fi:=⟨_,rfl⟩
  simp only [hfi] at hfb;have HFI : Hid (zag bks nm=fi):=hfi;clear hfi;refine (hfb _ _ own0.b.reads.row).mono ?_;rintro e w1 ⟨rfl,b1⟩;have kA1:=kb0 b1 kA;have kO1:=kb0 b1 kO;have kR1:=kb0 b1 kR;have own1:=own0.below b1;have hv1:=hv0.below b1;have d1:=za1 d0 b1;have hb1 : base<=w1.heap.size:=Nat.le_trans hb0 b1.size;have hlt1 : w.heap.size+1+1 < w1.heap.size:=Nat.lt_of_lt_of_le zr b1.size;clear b1 kA kO kR own0 hv0 d0 hb0 zr hfb;have hfi2:=HFI.out;rw [HAT.out] at hfi2;subst hfi2;have HVA : ∀ (v1 v2 vb : Value) (w : World) (own : OwnS base w v1 v2 vb cs ps bks),_:=fun v1 v2 vb w own=>zq6 base i at_ v1 v2 vb cs ps bks w hi hfit HPI.out.2 HPI.out.1 own
  simp only [HVV.out] at HVA;obtain ⟨p0,p1,p2⟩:=cq3 kA1;have q0:=za0 kO1 0
  go_upto_region 19 with fail
  clear p0 p1 p2 q0
  have HKeep : ∀ X,Below w1.heap.size w1 X->(X.cell? ⟨w.heap.size,0,none⟩=some (.slice o1 cs.length k1)/\X.cell? ⟨w.heap.size,1,none⟩=some (.slice o2 ps.length k2)/\X.cell? ⟨w.heap.size,2,none⟩=some (.slice ob bks.length kb)/\X.cell? ⟨w.heap.size+1,3,none⟩=some (.int .i64 at_)):=fun X hb=>by
    have x1:=kb0 hb kA1;have x2:=kb0 hb kO1;exact ⟨za0 x1 0,za0 x1 1,za0 x1 2,za0 x2 3⟩
  have HKeep2 : ∀ (X : World) (z0 z1 z2 : Value),Below w1.heap.size w1 X->((((X.setCell ⟨w.heap.size+1+1,0,none⟩ z0).setCell ⟨w.heap.size+1+1,1,none⟩ z1).setCell ⟨w.heap.size+1+1,2,none⟩ z2).cell? ⟨w.heap.size,0,none⟩=some (.slice o1 cs.length k1)/\(((X.setCell ⟨w.heap.size+1+1,0,none⟩ z0).setCell ⟨w.heap.size+1+1,1,none⟩ z1).setCell ⟨w.heap.size+1+1,2,none⟩ z2).cell? ⟨w.heap.size,1,none⟩=some (.slice o2 ps.length k2)/\(((X.setCell ⟨w.heap.size+1+1,0,none⟩ z0).setCell ⟨w.heap.size+1+1,1,none⟩ z1).setCell ⟨w.heap.size+1+1,2,none⟩ z2).cell? ⟨w.heap.size,2,none⟩=some (.slice ob bks.length kb)/\(((X.setCell ⟨w.heap.size+1+1,0,none⟩ z0).setCell ⟨w.heap.size+1+1,1,none⟩ z1).setCell ⟨w.heap.size+1+1,2,none⟩ z2).cell? ⟨w.heap.size+1,3,none⟩=some (.int .i64 at_)):=fun X z0 z1 z2 hb=>by
    have u : Upto (w.heap.size+1+1) X (((X.setCell ⟨w.heap.size+1+1,0,none⟩ z0).setCell ⟨w.heap.size+1+1,1,none⟩ z1).setCell ⟨w.heap.size+1+1,2,none⟩ z2):=(((Upto.refl _ _).setCell ⟨_,0,none⟩ (.inl rfl) _).setCell ⟨_,1,none⟩ (.inl rfl) _).setCell ⟨_,2,none⟩ (.inl rfl) _;have x1:=kb0 hb kA1;have x2:=kb0 hb kO1;have x1:=(u.block _ (za2 x1) (by omega)).trans x1;have x2:=(u.block _ (za2 x2) (by omega)).trans x2;exact ⟨za0 x1 0,za0 x1 1,za0 x1 2,za0 x2 3⟩
  have A1 : Below w1.heap.size w1 w1.drew:=zar (Below.refl _ _);have ownd:=own1.below A1
  go_region_held3 (fun w'=>w'.cell? ⟨w.heap.size,0,none⟩=some (.slice o1 cs.length k1)/\w'.cell? ⟨w.heap.size,1,none⟩=some (.slice o2 ps.length k2)/\w'.cell? ⟨w.heap.size,2,none⟩=some (.slice ob bks.length kb)/\w'.cell? ⟨w.heap.size+1,3,none⟩=some (.int .i64 at_))
    ((first | (refine HKeep2 _ _ _ _ ?_;exact A8) | (refine HKeep _ ?_;repeat (first | exact Below.refl _ _ | exact A8 | refine zar ?_))))
    ((go_at_call 241;refine (HVA _ _ _ _ ownd).mono ?_;rintro e w8 ⟨rfl,b8⟩;have A8 : Below w1.heap.size w1 w8:=za1 A1 b8;have kR8:=kb0 A8 kR1;have r0:=za0 kR8 0;have r1:=za0 kR8 1;have r2:=za0 kR8 2;have e0:=za8 kR8 0;have e1:=za8 kR8 1;have e2:=za8 kR8 2;skip))
  all_goals
    have hs:=zaq (w:=w) kR8 (by omega) (za1 d1 A8) (.slice o1 cs.length k1) (.slice o2 ps.length k2) (.slice ob bks.length kb);have ow3:=OwnS.answer (own1.below A8) kR8 hs.2.1
    obtain ⟨W3,hW3⟩ : ∃ W3 : World,W3=((w8.setCell ⟨w.heap.size+1+1,0,none⟩ (.slice o1 cs.length k1)).setCell ⟨w.heap.size+1+1,1,none⟩ (.slice o2 ps.length k2)).setCell ⟨w.heap.size+1+1,2,none⟩ (.slice ob bks.length kb):=⟨_,rfl⟩
    rw [<- hW3] at hs ow3 ⊢;have d2:=hs.2.2;have kR3:=hs.1;clear hW3 hs kR8 A8 b8 ownd A1 HKeep HKeep2 kA1 kO1 own1 hv1 d1 kR1 HVA r0 r1 r2 e0 e1 e2;have HS : Hid _:=zaq (w:=w) kR3 (by omega) d2 (.slice o1 cs.length k1) (.slice o2 ps.length k2) (.slice ob bks.length kb);have HG : Hid _:=OwnS.answer ow3 kR3 HS.out.2.1;obtain ⟨r0,r1,r2⟩:=cq3 kR3;obtain ⟨e0,e1,e2⟩:=oq3 kR3;clear ow3 d2 kR3
    go_wp2_with fail
    exact bodyPost_ret (v:=.tuple #[.agg #[.slice o1 cs.length k1,.slice o2 ps.length k2,.slice ob bks.length kb],.int .i64 V,.nilIface]) (by simp [results,Tryz.results208,go_sem,za0 HS.out.1]) rfl ⟨by
      rw [zy5 hi HOP.out,HVV.out]
      exact .inl ⟨rfl,_,_,_,_,rfl,⟨HG.out.1,HG.out.2,HG.out.3⟩,rfl⟩,HS.out.2.2⟩
theorem zqe (k : Int) (base : Nat) (v1 v2 vb : Value) (cs ps : List Int) (bks : List Bk) (nm ot : ByteArray) (at_ va ep : Int) (w : World) (ad : Nat->Addr) (hv : Vars w ad) (hbase : base<=w.heap.size) (inv : ShInv ⟨cs,ps,bks.map Bk.pb⟩) (ho : opOk ⟨k,nm,ot,at_,va,ep⟩=true) (hr : za5 (bks.map Bk.pb) ⟨k,nm,ot,at_,va,ep⟩=0) (own : OwnS base w v1 v2 vb cs ps bks) :
    Calls Tryz.prog 208 #[.agg #[v1,v2,vb],.agg #[.int .i64 k,.string nm,.string ot,.int .i64 at_,.int .i64 va,.int .i64 ep]] w fun e w'=>ChPost ad base (doOp ⟨cs,ps,bks.map Bk.pb⟩ ⟨k,nm,ot,at_,va,ep⟩) e w'/\Below w.heap.size w w':=by
  have hk : 1<=k/\k<=9:=(zc9 ho).2.1;have h : k=1\/k=2\/k=3\/k=4\/k=5\/k=6\/k=7\/k=8\/k=9:=by omega
  rcases h with rfl | rfl | rfl | rfl | rfl | rfl | rfl | rfl | rfl
  · exact zu8 base v1 v2 vb cs ps bks nm ot at_ va ep w ad hv hbase inv ho hr own
  · exact zu9 base v1 v2 vb cs ps bks nm ot at_ va ep w ad hv hbase inv ho hr own
  · exact zua base v1 v2 vb cs ps bks nm ot at_ va ep w ad hv hbase inv ho hr own
  · exact zub base v1 v2 vb cs ps bks nm ot at_ va ep w ad hv hbase inv ho hr own
  · exact zuc base v1 v2 vb cs ps bks nm ot at_ va ep w ad hv hbase inv ho hr own
  · exact zue base v1 v2 vb cs ps bks nm ot at_ va ep w ad hv hbase inv ho hr own
  · exact zuf base v1 v2 vb cs ps bks nm ot at_ va ep w ad hv hbase inv ho hr own
  · exact zug base v1 v2 vb cs ps bks nm ot at_ va ep w ad hv hbase inv ho hr own
  · exact zuh base v1 v2 vb cs ps bks nm ot at_ va ep w ad hv hbase inv ho hr own
end Go.Proofs.YtfkkapdofjhgpaaGreatDoor
namespace Go.Proofs.YtfkkapdofjhgpaaGreatDoor
open Go.RowKit
set_option linter.unusedVariables false
def rowB (bs : List Pb) : Bool:=decide (bs.length<=6) && bs.all Pb.ok && zdg (bs.map Pb.nm)
theorem zmx (s : Sf) : zcj s=(poolOk s.cs s.ps && rowB s.bs && countsOk s.cs s.bs):=by simp [zcj,rowB,Bool.and_assoc]
theorem zqf {bs : List Pb} (h : 6 < bs.length) : rowB bs=false:=by
  have h6 : ¬ bs.length<=6:=by omega
  simp [rowB,h6]
theorem zqg {bs : List Pb} (i : Nat) (hi : i < bs.length) (h : bs[i].ok=false) : rowB bs=false:=by
  have : bs.all Pb.ok=false:=by rw [List.all_eq_false];exact ⟨bs[i],List.getElem_mem hi,by rw [h];decide⟩
  simp [rowB,this]
theorem zoj {bs : List Pb} (i : Nat) (hi : i+1 < bs.length) (h : ltB bs[i].nm bs[i+1].nm=false) : rowB bs=false:=by
  have : zdg (bs.map Pb.nm)=false:=zr5 _ i (by simpa using hi) (by simpa using h);simp [rowB,this]
theorem zy9 {bs : List Pb} (h2 : bs.length<=6) (h3 : ∀ (i : Nat) (hi : i < bs.length),bs[i].ok=true) (h4 : ∀ (i : Nat) (hi : i+1 < bs.length),ltB (bs[i]'(by omega)).nm bs[i+1].nm=true) : rowB bs=true:=by
  have h5 : zdg (bs.map Pb.nm)=true:=zl3 _ (fun j h1=>by simpa using h4 j (by simpa using h1));have h6 : bs.all Pb.ok=true:=List.all_eq_true.2 (fun b hb=>by obtain ⟨j,hj,rfl⟩:=List.getElem_of_mem hb;exact h3 j hj);simp [rowB,h2,h5,h6]
theorem zui {bs : List Pb} (h : rowB bs=true) : bs.length<=6/\∀ (i : Nat) (hi : i < bs.length),bs[i].ok=true:=by
  simp only [rowB,Bool.and_eq_true,decide_eq_true_eq] at h;exact ⟨h.1.1,fun i hi=>List.all_eq_true.1 h.1.2 _ (List.getElem_mem hi)⟩
set_option maxRecDepth 100000 in
theorem zuj (vb : Value) (bks : List Bk) (w : World) (hn : ∀ b ∈ bks,b.nm.size<=maxLen) (hf : ∀ b ∈ bks,zb9 b.rs) (rb : ReadsB w.heap.size w vb bks) :
    Calls Tryz.prog 225 #[vb] w fun e w'=>e = .returned (.bool (rowB (bks.map Bk.pb)))/\Below w.heap.size w w':=by
  have HN : Hid _:=hn;have HF : Hid _:=hf;obtain ⟨ob,cpb,f3,mb,cb,-⟩:=rb.row;subst f3;unfold maxLen at mb;have CB : Hid _:=zbj cb;have RM : Hid _:=rb.maps;clear hn hf rb cb
  obtain ⟨bs,hbs⟩ : ∃ bs,bks.map Bk.pb=bs:=⟨_,rfl⟩
  have hbl : bs.length=bks.length:=by rw [<- hbs,List.length_map]
  have HAT : Hid (∀ (i : Nat) (h1 : i < bks.length) (h2 : i < bs.length),bs[i]=bks[i].pb):=fun i h1 h2=>by subst hbs;simp
  rw [hbs];have HBL : Hid (bs.length=bks.length):=hbl;clear hbs hbl;by_cases hmany : 6 < bks.length
  · have HV : Hid (rowB bs=false):=zqf (by rw [HBL.out];exact hmany)
    have h6 : (6 : Int) < (bks.length : Int):=by omega
    go_enter Tryz.func225,Tryz.ntmps225
    go_wp2_with fail
    go_ret;exact ⟨za6 HV.out.symm,Below.refl _ _⟩
  have h6 : ¬ (6 : Int) < (bks.length : Int):=by omega
  go_enter Tryz.func225,Tryz.ntmps225
  go_wp2_with fail
  go_loopw [10] (fun i wr=>∃ q : Nat,q<=bks.length/\i = .int .i64 q/\(∀ j (hj : j < bs.length),j < q->bs[j].ok=true)/\(∀ j (hj : j+1 < bs.length),j+1 < q->ltB (bs[j]'(by omega)).nm bs[j+1].nm=true)/\Below w.heap.size w wr) (fun i _=>bks.length - (intOf i).toNat)
  case atStart=>exact ⟨0,Nat.zero_le _,rfl,fun j _ h=>by omega,fun j _ h=>by omega,Below.refl _ _⟩
  case round =>
    obtain ⟨q,hq,rfl,hoks,hsrt,hb⟩:=hrel;have HOKS : Hid _:=hoks;have HSRT : Hid _:=hsrt;clear hoks hsrt;by_cases hlt : q < bks.length
    · obtain ⟨g,off,rfl,hg,a0,a1,a2,a3,a4⟩:=CB.out q hlt
      have hltb : q < bs.length:=by have:=HBL.out;omega
      have rm:=(RM.out bks[q] (List.getElem_mem hlt)).below hb;have hnm:=HN.out bks[q] (List.getElem_mem hlt);have hfr:=HF.out bks[q] (List.getElem_mem hlt);have hat:=HAT.out q hlt hltb
      have HPREV : Hid (∀ q',q=q'+1->∃ (h : q' < bs.length),wr.cell? ⟨g,off+q' * 5,none⟩=some (.string bs[q'].nm)):=fun q' e=>by
        have hl' : q' < bks.length:=by omega
        obtain ⟨g',off',e',hg',c0,-⟩:=CB.out q' hl';cases e';have hl2 : q' < bs.length:=by have:=HBL.out;omega
        refine ⟨hl2,?_⟩;rw [HAT.out q' hl' hl2];exact (hb.cell (p:=⟨g,off+q' * 5,none⟩) hg).trans c0
      obtain ⟨x,hx⟩ : ∃ x,bks[q]=x:=⟨_,rfl⟩
      rw [hx] at a0 a1 a2 a3 a4 rm hnm hat hfr;clear hx;obtain ⟨nm,sz,m,rs,fx,ep⟩:=x;simp only at a0 a1 a2 a3 a4 rm hnm hfr;obtain ⟨o',cap',hm'⟩:=rm.form;subst hm';have lg : g < wr.heap.size:=Nat.lt_of_lt_of_le hg hb.size;replace a0:=(hb.cell (p:=⟨g,off+q * 5,none⟩) hg).trans a0;replace a1:=(hb.cell (p:=⟨g,off+q * 5+1,none⟩) hg).trans a1;replace a2:=(hb.cell (p:=⟨g,off+q * 5+2,none⟩) hg).trans a2;replace a3:=(hb.cell (p:=⟨g,off+q * 5+3,none⟩) hg).trans a3;replace a4:=(hb.cell (p:=⟨g,off+q * 5+4,none⟩) hg).trans a4;obtain ⟨WB,hWB,kB,dB,zB⟩:=zb4 wr #[.string nm,.int .i64 sz,.slice o' rs.length cap',.bool fx,.int .i64 ep] 117;have HWB : Hid (WB = _):=hWB;have lB : wr.heap.size < WB.heap.size:=za2 kB;have lg2 : g < WB.heap.size:=by omega
      have hbB:=za1 hb dB
      obtain ⟨okv,hok⟩ : ∃ x,bookOk nm sz rs ep=x:=⟨_,rfl⟩
      have HBO : Hid (bs[q].ok=okv):=by rw [Hid,hat];exact hok
      have HBN : Hid (bs[q].nm=nm):=by rw [Hid,hat];rfl
      have rmB:=rm.below ((dB.mono hb.size));have HOK : Hid (bookOk nm sz rs ep=okv):=hok
      have HP2 : Hid (∀ q',q=q'+1->∃ (h : q' < bs.length),WB.cell? ⟨g,off+q' * 5,none⟩=some (.string bs[q'].nm)):=fun q' e=>by
        obtain ⟨h,c⟩:=HPREV.out q' e;exact ⟨h,(dB.cell (p:=⟨g,off+q' * 5,none⟩) lg).trans c⟩
      have i0 : (0 : Int)<=(q : Int):=by omega
      have i1 : (q : Int) < (bks.length : Int):=by omega
      clear hok hat hWB zB rm HPREV
      go_upto_region 6 with fail
      rw [<- HWB.out];have hne:=BelowOf.any WB;have c0:=BelowOf.cell (v:=.string nm) (za0 kB 0) lB;have c1:=BelowOf.cell (v:=.int .i64 sz) (za0 kB 1) lB;have c2:=BelowOf.cell (v:=.slice o' rs.length cap') (za0 kB 2) lB;have c3:=BelowOf.cell (v:=.bool fx) (za0 kB 3) lB;have c4:=BelowOf.cell (v:=.int .i64 ep) (za0 kB 4) lB;have HBK : ∀ z : BelowOf WB,Calls Tryz.prog 201 #[.agg #[.string nm,.int .i64 sz,.slice o' rs.length cap',.bool fx,.int .i64 ep]] z.w' fun e w'=>e = .returned (.bool okv)/\Below z.w'.heap.size z.w' w':=fun z=>by have h:=zm4 nm sz _ rs fx ep z.w' hnm hfr (rmB.of hbB.size z);rwa [HOK.out] at h
      clear a0 a1 a2 a3 a4 HWB dB
      go_cut [32] (fun v wx=>∃ y : Bool,v = .bool y/\(y=true->rowB bs=false)/\(y=false->okv=true/\∀ q',q=q'+1->∀ (h : q' < bs.length),ltB bs[q'].nm nm=true)/\Below WB.heap.size WB wx)
      case first =>
        cases okv
        · have HV : Hid _:=zqg q hltb HBO.out
          refine zad (by kernel_rfl) (by kernel_rfl) ?_
          repeat (go_big_quiet_step ((first | (go_at_call 201;exact zb1 (HBK _)) | rfl)))
          refine wpQuiet_nil ?_;intro w5 hw5;obtain ⟨⟨wx,cx⟩,hwx⟩:=hw5;have b5 : Below WB.heap.size WB w5:=by rw [hwx];exact cx
          clear hwx cx wx
          go_wp2_with fail
          go_meet
          exact ⟨true,rfl,fun _=>HV.out,(fun h=>by cases h),b5⟩
        · rcases Nat.eq_zero_or_pos q with hq0 | hqp
          · have j2 : decide (0 < q)=false:=decide_eq_false (by omega)
            have HQ0 : Hid (q=0):=hq0;clear hq0;refine zad (by kernel_rfl) (by kernel_rfl) ?_
            repeat (go_big_quiet_step ((first | (go_at_call 201;exact zb1 (HBK _)) | rfl)))
            refine wpQuiet_nil ?_;intro w5 hw5;obtain ⟨⟨wx,cx⟩,hwx⟩:=hw5;have b5 : Below WB.heap.size WB w5:=by rw [hwx];exact cx
            clear hwx cx wx
            go_wp2_with fail
            go_meet
            exact ⟨false,rfl,(fun h=>by cases h),(fun _=>⟨by first | rfl | trivial,fun q' h=>by have:=HQ0.out;omega⟩),b5⟩
          · obtain ⟨q',hqq⟩ : ∃ q',q=q'+1:=⟨q - 1,by omega⟩
            have HQQ : Hid (q=q'+1):=hqq;obtain ⟨hl2,cp⟩:=HP2.out q' hqq;have cP:=BelowOf.cell cp lg2
            obtain ⟨pn,hpn⟩ : ∃ x,bs[q'].nm=x:=⟨_,rfl⟩
            have HPN : Hid (bs[q'].nm=pn):=hpn;rw [hpn] at cP;have hw1 : IntKind.i64.wrap ((q : Int) - 1)=q':=by rw [IntKind.wrap_i64];omega
            have hw2 : (q : Int) - 1=q':=by omega
            have hw3 : IntKind.i64.wrap (q' : Int)=q':=by rw [IntKind.wrap_i64];omega
            have j0 : (0 : Int)<=(q' : Int):=by omega
            have j1 : (q' : Int) < (bks.length : Int):=by omega
            have j2 : decide (0 < q)=true:=decide_eq_true (by omega)
            obtain ⟨ly,hly⟩ : ∃ y,Op.bytesLess pn.toList nm.toList=y:=⟨_,rfl⟩
            have HLY : Hid (ltB pn nm=ly):=hly;clear hpn cp hqq hqp;refine zad (by kernel_rfl) (by kernel_rfl) ?_
            repeat (go_big_quiet_step ((first | (go_at_call 201;exact zb1 (HBK _)) | rfl)))
            refine wpQuiet_nil ?_;intro w5 hw5;obtain ⟨⟨wx,cx⟩,hwx⟩:=hw5;have b5 : Below WB.heap.size WB w5:=by rw [hwx];exact cx
            clear hwx cx wx
            go_wp2_with fail
            go_meet
            refine ⟨(!ly),rfl,fun h=>?_,fun h=>⟨by first | rfl | trivial,fun q'' e hh=>?_⟩,b5⟩
            · have hf : ltB pn nm=false:=by rw [HLY.out];simpa using h
              have hq1:=HQQ.out;subst hq1;exact zoj q' hltb (by rw [HPN.out,HBN.out];exact hf)
            · obtain rfl : q''=q':=by have:=HQQ.out;omega
              rw [HPN.out,HLY.out];simpa using h
      case rest =>
        obtain ⟨y,rfl,hy1,hy2,b5⟩:=hcut;have hbc:=za1 hbB b5;clear c0 c1 c2 c3 c4 HBK hne HP2 b5 kB;cases y
        · obtain ⟨hokv,hord⟩:=hy2 rfl
          have HOK2 : Hid (∀ j (hj : j < bs.length),j < q+1->bs[j].ok=true):=fun j hj h=>by
            rcases Nat.lt_or_ge j q with z | z
            · exact HOKS.out j hj z
            · obtain rfl : j=q:=by omega
              rw [HBO.out];exact hokv
          have HSR2 : Hid (∀ j (hj : j+1 < bs.length),j+1 < q+1->ltB (bs[j]'(by omega)).nm bs[j+1].nm=true):=fun j hj h=>by
            rcases Nat.lt_or_ge (j+1) q with z | z
            · exact HSRT.out j hj z
            · obtain rfl : q=j+1:=by omega
              have:=hord j rfl (by omega)
              rwa [<- HBN.out] at this
          clear hy1 hy2 hord hokv
          go_wp2_with fail
          go_roundw
          case rel=>exact ⟨q+1,by omega,by go_num,HOK2.out,HSR2.out,hbc⟩
          case measure=>simp [intOf];omega
        · have HV : Hid _:=hy1 rfl
          clear hy1 hy2
          go_wp2_with fail
          go_ret;exact ⟨za6 HV.out.symm,hbc⟩
    · have HV : Hid (rowB bs=true):=zy9 (by have:=HBL.out;omega) (fun j hj=>HOKS.out j hj (by have:=HBL.out;omega)) (fun j hj=>HSRT.out j hj (by have:=HBL.out;omega))
      have hql : ¬ (q : Int) < (bks.length : Int):=by omega
      clear HOKS HSRT
      go_wp2_with fail
      go_ret;exact ⟨za6 HV.out.symm,hb⟩
end Go.Proofs.YtfkkapdofjhgpaaGreatDoor
