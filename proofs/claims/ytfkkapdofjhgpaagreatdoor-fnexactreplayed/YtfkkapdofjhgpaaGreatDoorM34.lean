import Derived.Deep.RegionHeld3
import Derived.Deep.DeepCutAuto
import Derived.Lib.AppendZeros
import Derived.Test.YtfkkapdofjhgpaaGreatDoorM09
import Derived.Test.YtfkkapdofjhgpaaGreatDoorM23
import Derived.Test.YtfkkapdofjhgpaaGreatDoorM25
import Derived.Test.YtfkkapdofjhgpaaGreatDoorM29
import Derived.Test.YtfkkapdofjhgpaaGreatDoorM32
import Derived.Test.YtfkkapdofjhgpaaGreatDoorM33
set_option maxHeartbeats 12800000
namespace Go.Proofs.YtfkkapdofjhgpaaGreatDoor
open Go.RowKit
set_option linter.unusedVariables false
set_option maxRecDepth 100000
theorem zub (base : Nat) (v1 v2 vb : Value) (cs ps : List Int) (bks : List Bk) (nm ot : ByteArray) (at_ va ep : Int) (w : World) (ad : Nat->Addr) (hv : Vars w ad) (hbase : base<=w.heap.size) (inv : ShInv ⟨cs,ps,bks.map Bk.pb⟩) (ho : opOk ⟨4,nm,ot,at_,va,ep⟩=true) (hr : za5 (bks.map Bk.pb) ⟨4,nm,ot,at_,va,ep⟩=0) (own : OwnS base w v1 v2 vb cs ps bks) :
    Calls Tryz.prog 208 #[.agg #[v1,v2,vb],.agg #[.int .i64 4,.string nm,.string ot,.int .i64 at_,.int .i64 va,.int .i64 ep]] w fun e w'=>ChPost ad base (doOp ⟨cs,ps,bks.map Bk.pb⟩ ⟨4,nm,ot,at_,va,ep⟩) e w'/\Below w.heap.size w w':=by
  have F:=zcm inv;obtain ⟨i,hi,hat,hop⟩:=zju inv ho hr (fun h=>by cases h);have HAT : Hid (zag bks nm=(i : Int)):=hat;have HOP : Hid _:=hop;clear hat hop;have hfit:=F.fit bks[i] (List.getElem_mem hi);have hrl : bks[i].rs.length<=1048576:=by have:=F.rs bks[i] (List.getElem_mem hi);omega
  have hnl : bks[i].nm.size<=1099511627776:=by have:=F.nm bks[i] (List.getElem_mem hi);omega
  have hpt:=(zbk hr).2.2.1 rfl;have hnew:=zjg hpt.1;have hl5 : bks.length<=5:=by have h1:=hpt.2 (fun h=>by cases h);have h2:=F.few;rw [List.length_map] at h1;omega
  have hot : ot.size<=1099511627776:=by have h4 : ot.size<=4:=(zd1 _ ((zc9 ho).2.2.1 rfl)).2;omega
  have HSR : Hid _:=F.srt;have HNW : Hid _:=hnew;clear hpt hnew;have hms : ∀ b ∈ bks,∃ o k cap,b.m = .slice o k cap:=fun b hb=>by obtain ⟨o,c,h⟩:=za4 (own.b.maps b hb);exact ⟨o,_,c,h⟩
  have HMS : Hid _:=hms;obtain ⟨o1,k1,o2,k2,ob,kb,rfl,rfl,rfl⟩:=own.forms;obtain ⟨W0,hW0,kA,kO,kR,d0,z0⟩:=zg0 w #[.slice o1 cs.length k1,.slice o2 ps.length k2,.slice ob bks.length kb] #[.int .i64 4,.string nm,.string ot,.int .i64 at_,.int .i64 va,.int .i64 ep] #[.slice none 0 0,.slice none 0 0,.slice none 0 0] 30 37 30;have HW0 : Hid (W0 = _):=hW0;have own0:=own.below d0;have hv0:=hv.below d0;have zr : w.heap.size+1+1 < W0.heap.size:=by omega
  have hb0 : base<=W0.heap.size:=by omega
  have HF : Hid _:=F;have HINV : Hid _:=inv;clear hW0 z0 own hv hms F inv ho hr hbase
  go_enter Tryz.func208,Tryz.ntmps208
  go_wp2_with fail
  rw [<- HW0.out];clear HW0;have hfb : ∀ (v : Value) (w : World) (r : ReadsR 5 bookC w.heap.size w v bks),_:=fun v w r=>zal v bks nm w HMS.out r
  obtain ⟨fi,hfi⟩ : ∃ fi,zag bks nm=fi:=⟨_,rfl⟩
  simp only [hfi] at hfb;have HFI : Hid (zag bks nm=fi):=hfi;clear hfi;refine (hfb _ _ own0.b.reads.row).mono ?_;rintro e w1 ⟨rfl,b1⟩;have kA1:=kb0 b1 kA;have kO1:=kb0 b1 kO;have kR1:=kb0 b1 kR;have own1:=own0.below b1;have hv1:=hv0.below b1;have d1:=za1 d0 b1;have hb1 : base<=w1.heap.size:=Nat.le_trans hb0 b1.size;have hlt1 : w.heap.size+1+1 < w1.heap.size:=Nat.lt_of_lt_of_le zr b1.size;clear b1 kA kO kR own0 hv0 d0 hb0 zr hfb;have hfi2:=HFI.out;rw [HAT.out] at hfi2;subst hfi2;obtain ⟨p0,p1,p2⟩:=cq3 kA1;obtain ⟨q0,q1,q2,q3,q4,q5⟩:=cq6 kO1
  go_wp2_with fail
  clear p0 p1 p2 q0 q1 q2 q3 q4 q5;refine (zh5 base i _ _ _ cs ps bks 4 nm ot at_ va ep _ hb1 hi hl5 HSR.out HNW.out hot hnl hrl hfit own1).mono ?_;rintro e w2 ⟨u1,u2,ub,m,rfl,ow2,b2⟩
  obtain ⟨D,hD⟩ : ∃ D,zax (cs,ps) (pagesOf bks[i].rs)=D:=⟨_,rfl⟩
  have HD : Hid (zax (cs,ps) (pagesOf bks[i].rs)=D):=hD;simp only [hD] at ow2;clear hD
  obtain ⟨N,hN⟩ : ∃ N,zda bks ⟨ot,bks[i].sz,m,bks[i].rs,(4 : Int) == 4,0⟩=N:=⟨_,rfl⟩
  have HN : Hid (zda bks ⟨ot,bks[i].sz,m,bks[i].rs,(4 : Int) == 4,0⟩=N):=hN;simp only [hN] at ow2;clear hN;obtain ⟨y1,j1,y2,j2,o6,c6,hu1,hu2,hub⟩:=ow2.forms;subst hu1 hu2 hub;have kR2:=kb0 b2 kR1;have d2:=za1 d1 b2;have hs:=zaq (w:=w) kR2 (by omega) d2 (.slice y1 D.1.length j1) (.slice y2 D.2.length j2) (.slice o6 N.length c6);have ow3:=OwnS.answer ow2 kR2 hs.2.1;obtain ⟨r0,r1,r2⟩:=cq3 kR2;obtain ⟨e0,e1,e2⟩:=oq3 kR2
  obtain ⟨W3,hW3⟩ : ∃ W3 : World,W3=((w2.setCell ⟨w.heap.size+1+1,0,none⟩ (.slice y1 D.1.length j1)).setCell ⟨w.heap.size+1+1,1,none⟩ (.slice y2 D.2.length j2)).setCell ⟨w.heap.size+1+1,2,none⟩ (.slice o6 N.length c6):=⟨_,rfl⟩
  rw [<- hW3] at hs ow3;have HW3 : Hid (W3 = _):=hW3;clear hW3 ow2 b2 kA1 kO1 own1 hv1 d1 kR1
  go_upto_region 20 with fail
  rw [<- HW3.out];clear HW3 r0 r1 r2 e0 e1 e2 kR2;have HS : Hid _:=zaq (w:=w) hs.1 (by omega) hs.2.2 (.slice y1 D.1.length j1) (.slice y2 D.2.length j2) (.slice o6 N.length c6);have HG : Hid _:=OwnS.answer ow3 hs.1 HS.out.2.1;obtain ⟨r0,r1,r2⟩:=cq3 hs.1;obtain ⟨e0,e1,e2⟩:=oq3 hs.1;clear hs ow3 d2
  go_wp2_with fail
  exact bodyPost_ret (v:=.tuple #[.agg #[.slice y1 D.1.length j1,.slice y2 D.2.length j2,.slice o6 N.length c6],.int .i64 0,.nilIface]) (by simp [results,Tryz.results208,go_sem,za0 HS.out.1]) rfl ⟨by
    rw [zsk (by decide) hi HOP.out m,HD.out,HN.out]
    exact .inl ⟨rfl,_,_,_,_,rfl,⟨HG.out.1,HG.out.2,HG.out.3⟩,rfl⟩,HS.out.2.2⟩
theorem zuc (base : Nat) (v1 v2 vb : Value) (cs ps : List Int) (bks : List Bk) (nm ot : ByteArray) (at_ va ep : Int) (w : World) (ad : Nat->Addr) (hv : Vars w ad) (hbase : base<=w.heap.size) (inv : ShInv ⟨cs,ps,bks.map Bk.pb⟩) (ho : opOk ⟨5,nm,ot,at_,va,ep⟩=true) (hr : za5 (bks.map Bk.pb) ⟨5,nm,ot,at_,va,ep⟩=0) (own : OwnS base w v1 v2 vb cs ps bks) :
    Calls Tryz.prog 208 #[.agg #[v1,v2,vb],.agg #[.int .i64 5,.string nm,.string ot,.int .i64 at_,.int .i64 va,.int .i64 ep]] w fun e w'=>ChPost ad base (doOp ⟨cs,ps,bks.map Bk.pb⟩ ⟨5,nm,ot,at_,va,ep⟩) e w'/\Below w.heap.size w w':=by
  have F:=zcm inv;obtain ⟨i,hi,hat,hop⟩:=zju inv ho hr (fun h=>by cases h);have HAT : Hid (zag bks nm=(i : Int)):=hat;have HOP : Hid _:=hop;clear hat hop;have hfit:=F.fit bks[i] (List.getElem_mem hi);have hrl : bks[i].rs.length<=1048576:=by have:=F.rs bks[i] (List.getElem_mem hi);omega
  have hnl : bks[i].nm.size<=1099511627776:=by have:=F.nm bks[i] (List.getElem_mem hi);omega
  have hpt:=(zbk hr).2.2.1 rfl;have hnew:=zjg hpt.1;have hl5 : bks.length<=5:=by have h1:=hpt.2 (fun h=>by cases h);have h2:=F.few;rw [List.length_map] at h1;omega
  have hot : ot.size<=1099511627776:=by have h4 : ot.size<=4:=(zd1 _ ((zc9 ho).2.2.1 rfl)).2;omega
  have HSR : Hid _:=F.srt;have HNW : Hid _:=hnew;clear hpt hnew;have hms : ∀ b ∈ bks,∃ o k cap,b.m = .slice o k cap:=fun b hb=>by obtain ⟨o,c,h⟩:=za4 (own.b.maps b hb);exact ⟨o,_,c,h⟩
  have HMS : Hid _:=hms;obtain ⟨o1,k1,o2,k2,ob,kb,rfl,rfl,rfl⟩:=own.forms;obtain ⟨W0,hW0,kA,kO,kR,d0,z0⟩:=zg0 w #[.slice o1 cs.length k1,.slice o2 ps.length k2,.slice ob bks.length kb] #[.int .i64 5,.string nm,.string ot,.int .i64 at_,.int .i64 va,.int .i64 ep] #[.slice none 0 0,.slice none 0 0,.slice none 0 0] 30 37 30;have HW0 : Hid (W0 = _):=hW0;have own0:=own.below d0;have hv0:=hv.below d0;have zr : w.heap.size+1+1 < W0.heap.size:=by omega
  have hb0 : base<=W0.heap.size:=by omega
  have HF : Hid _:=F;have HINV : Hid _:=inv;clear hW0 z0 own hv hms F inv ho hr hbase
  go_enter Tryz.func208,Tryz.ntmps208
  go_wp2_with fail
  rw [<- HW0.out];clear HW0;have hfb : ∀ (v : Value) (w : World) (r : ReadsR 5 bookC w.heap.size w v bks),_:=fun v w r=>zal v bks nm w HMS.out r
  obtain ⟨fi,hfi⟩ : ∃ fi,zag bks nm=fi:=⟨_,rfl⟩
  simp only [hfi] at hfb;have HFI : Hid (zag bks nm=fi):=hfi;clear hfi;refine (hfb _ _ own0.b.reads.row).mono ?_;rintro e w1 ⟨rfl,b1⟩;have kA1:=kb0 b1 kA;have kO1:=kb0 b1 kO;have kR1:=kb0 b1 kR;have own1:=own0.below b1;have hv1:=hv0.below b1;have d1:=za1 d0 b1;have hb1 : base<=w1.heap.size:=Nat.le_trans hb0 b1.size;have hlt1 : w.heap.size+1+1 < w1.heap.size:=Nat.lt_of_lt_of_le zr b1.size;clear b1 kA kO kR own0 hv0 d0 hb0 zr hfb;have hfi2:=HFI.out;rw [HAT.out] at hfi2;subst hfi2;obtain ⟨p0,p1,p2⟩:=cq3 kA1;obtain ⟨q0,q1,q2,q3,q4,q5⟩:=cq6 kO1
  go_wp2_with fail
  clear p0 p1 p2 q0 q1 q2 q3 q4 q5;refine (zh5 base i _ _ _ cs ps bks 5 nm ot at_ va ep _ hb1 hi hl5 HSR.out HNW.out hot hnl hrl hfit own1).mono ?_;rintro e w2 ⟨u1,u2,ub,m,rfl,ow2,b2⟩
  obtain ⟨D,hD⟩ : ∃ D,zax (cs,ps) (pagesOf bks[i].rs)=D:=⟨_,rfl⟩
  have HD : Hid (zax (cs,ps) (pagesOf bks[i].rs)=D):=hD;simp only [hD] at ow2;clear hD
  obtain ⟨N,hN⟩ : ∃ N,zda bks ⟨ot,bks[i].sz,m,bks[i].rs,(5 : Int) == 4,0⟩=N:=⟨_,rfl⟩
  have HN : Hid (zda bks ⟨ot,bks[i].sz,m,bks[i].rs,(5 : Int) == 4,0⟩=N):=hN;simp only [hN] at ow2;clear hN;obtain ⟨y1,j1,y2,j2,o6,c6,hu1,hu2,hub⟩:=ow2.forms;subst hu1 hu2 hub;have kR2:=kb0 b2 kR1;have d2:=za1 d1 b2;have hs:=zaq (w:=w) kR2 (by omega) d2 (.slice y1 D.1.length j1) (.slice y2 D.2.length j2) (.slice o6 N.length c6);have ow3:=OwnS.answer ow2 kR2 hs.2.1;obtain ⟨r0,r1,r2⟩:=cq3 kR2;obtain ⟨e0,e1,e2⟩:=oq3 kR2
  obtain ⟨W3,hW3⟩ : ∃ W3 : World,W3=((w2.setCell ⟨w.heap.size+1+1,0,none⟩ (.slice y1 D.1.length j1)).setCell ⟨w.heap.size+1+1,1,none⟩ (.slice y2 D.2.length j2)).setCell ⟨w.heap.size+1+1,2,none⟩ (.slice o6 N.length c6):=⟨_,rfl⟩
  rw [<- hW3] at hs ow3;have HW3 : Hid (W3 = _):=hW3;clear hW3 ow2 b2 kA1 kO1 own1 hv1 d1 kR1
  go_upto_region 20 with fail
  rw [<- HW3.out];clear HW3 r0 r1 r2 e0 e1 e2 kR2;have HS : Hid _:=zaq (w:=w) hs.1 (by omega) hs.2.2 (.slice y1 D.1.length j1) (.slice y2 D.2.length j2) (.slice o6 N.length c6);have HG : Hid _:=OwnS.answer ow3 hs.1 HS.out.2.1;obtain ⟨r0,r1,r2⟩:=cq3 hs.1;obtain ⟨e0,e1,e2⟩:=oq3 hs.1;clear hs ow3 d2
  go_wp2_with fail
  exact bodyPost_ret (v:=.tuple #[.agg #[.slice y1 D.1.length j1,.slice y2 D.2.length j2,.slice o6 N.length c6],.int .i64 0,.nilIface]) (by simp [results,Tryz.results208,go_sem,za0 HS.out.1]) rfl ⟨by
    rw [zsk (by decide) hi HOP.out m,HD.out,HN.out]
    exact .inl ⟨rfl,_,_,_,_,rfl,⟨HG.out.1,HG.out.2,HG.out.3⟩,rfl⟩,HS.out.2.2⟩
theorem zwh {W : World} {c : Nat} {x0 x1 x2 x3 x4 : Value} {T : TypeId} (k : W.heap[c]? = some (.cells #[x0,x1,x2,x3,x4] T (0,0))) (y1 y2 : Value) :
    ((W.setCell ⟨c,1,none⟩ y1).setCell ⟨c,2,none⟩ y2).heap[c]? = some (.cells #[x0,y1,y2,x3,x4] T (0,0))/\Upto c W ((W.setCell ⟨c,1,none⟩ y1).setCell ⟨c,2,none⟩ y2) :=
  ⟨zab (zab k 1 y1) 2 y2,((Upto.refl _ _).setCell ⟨c,1,none⟩ (.inl rfl) _).setCell ⟨c,2,none⟩ (.inl rfl) _⟩
theorem zs5 (rs : List (Int × Int × Int)) (hm : mapOk rs=true) (size : Int) (hs : 1<=size/\size<=16) : (pagesOf (belowM rs size)).length<=(pagesOf rs).length:=by
  obtain ⟨n,rfl⟩:=Int.eq_ofNat_of_zero_le (show 0<=size by omega);have hn : n<=16:=by omega
  obtain ⟨h1,h2,-⟩:=zj4 rs hm n hn;have hb : pagesOf (belowM rs (n : Int))=(cutAt (za7 rs) n).filter (fun p=>decide (0<=p)):=by rw [belowM,if_pos hm,pagesOf,if_pos h1,h2]
  have ho : pagesOf rs=(za7 rs).filter (fun p=>decide (0<=p)):=by rw [pagesOf,if_pos hm]
  rw [hb,ho,zgq _ (zac rs) n hn,List.filter_append]
  have e : (List.replicate (16 - n) (-1 : Int)).filter (fun p=>decide (0<=p)) = []:=by
    rw [List.filter_eq_nil_iff];intro a ha;simp only [List.mem_replicate] at ha;rw [ha.2]
    decide
  rw [e,List.append_nil];exact ((List.take_sublist n (za7 rs)).filter _).length_le
theorem znq {B : Nat} {w : World} {g cap n : Nat} {ps : List Int} (h : Reads B w (.slice (some ⟨g,0,none⟩) n cap) (ps.map (Value.int .i64))) (k : Nat) (hk : k<=ps.length) : Reads B w (.slice (if cap=k then some ⟨g,0,none⟩ else some ⟨g,k,none⟩) (ps.length - k) (cap - k)) ((ps.drop k).map (Value.int .i64)):=by
  obtain ⟨o,c,hv,hm,hc,hr⟩:=h;simp only [Value.slice.injEq] at hv;obtain ⟨rfl,hn,rfl⟩:=hv;rw [List.length_map] at hm hr hn;refine ⟨_,_,by rw [List.length_map,List.length_drop],by rw [List.length_map,List.length_drop];omega,fun j u hj=>?_,by rw [List.length_map,List.length_drop];omega⟩;have hj2 : (ps.map (Value.int .i64))[k+j]? = some u:=by rw [List.getElem?_map] at hj ⊢;rw [List.getElem?_drop] at hj;exact hj
  obtain ⟨g',off',e,hg,hx⟩:=hc (k+j) u hj2;simp only [Option.some.injEq,Addr.mk.injEq] at e;obtain ⟨rfl,rfl,-⟩:=e;have hl:=(List.getElem?_eq_some_iff.1 hj2).1;rw [List.length_map] at hl;rw [if_neg (by omega)];exact ⟨g,k,rfl,hg,by rw [Nat.zero_add] at hx;exact hx⟩
theorem zqa (base i : Nat) (size : Int) (v1 v2 vb : Value) (cs ps : List Int) (bks : List Bk) (w : World) (hbase : base<=w.heap.size) (hi : i < bks.length) (hl : bks.length<=6) (hs : 1<=size/\size<=16) (hm : mapOk bks[i].rs=true) (hfit : zb9 bks[i].rs) (own : OwnS base w v1 v2 vb cs ps bks) :
    Calls Tryz.prog 239 #[.agg #[v1,v2,vb],.int .i64 i,.int .i64 size] w fun e w'=>∃ u1 u2 ub m : Value,e = .returned (.agg #[u1,u2,ub])/\OwnS base w' u1 u2 ub (zaj (cs,ps) ((pagesOf bks[i].rs).drop (pagesOf (belowM bks[i].rs size)).length)).1 (zaj (cs,ps) ((pagesOf bks[i].rs).drop (pagesOf (belowM bks[i].rs size)).length)).2 (bks.set i ⟨bks[i].nm,size,m,belowM bks[i].rs size,bks[i].fx,bks[i].ep⟩)/\Below w.heap.size w w':=by
  obtain ⟨o1,k1,o2,k2,ob,kb,rfl,rfl,rfl⟩:=own.forms;obtain ⟨g,cap,hvb⟩:=own.b.at i hi;cases hvb;obtain ⟨W0,hW0,kA,kR,d0,z0⟩:=zc7 w #[.slice o1 cs.length k1,.slice o2 ps.length k2,.slice (some ⟨g,0,none⟩) bks.length kb] #[.slice none 0 0,.slice none 0 0,.slice none 0 0] 30 30;have own0:=own.below d0;have hmi:=own0.b.maps _ (List.getElem_mem hi);obtain ⟨⟨a0,a1,a2,a3,a4⟩,-⟩:=zaz own0.b.row i hi;have hg0 : g < W0.heap.size:=(own0.b.row.lt g rfl).2
  obtain ⟨x,hx⟩ : ∃ x,bks[i]=x:=⟨_,rfl⟩
  rw [hx] at hmi hfit hm a0 a1 a2 a3 a4 ⊢;clear hx;obtain ⟨xn,xs,xm,xr,xf,xe⟩:=x;simp only at hmi hfit hm a0 a1 a2 a3 a4 ⊢;obtain ⟨om,cm,hxm⟩:=za4 hmi;subst hxm;obtain ⟨W1,hW1,kB,d1,z1⟩:=zb4 W0 #[.string xn,.int .i64 xs,.slice om xr.length cm,.bool xf,.int .i64 xe] 117;have hW1b:=hW1;rw [hW0] at hW1b;have HW1 : Hid (W1 = _):=hW1b;have pA:=za0 kA 2;have own1 : OwnS base W1 _ _ _ cs ps bks:=own0.below d1;have om1:=za9 hmi d1;have rm1 : ReadsR 3 zak W1.heap.size W1 (.slice om xr.length cm) xr:=ReadsR.of_own zat om1;have kA1:=kb0 d1 kA;have kR1:=kb0 d1 kR;rw [z0] at kB;have dW:=za1 d0 d1;have zz : w.heap.size+1+1 < W1.heap.size:=by omega
  have zg : g < w.heap.size+1+1:=by omega
  have i0 : (0 : Int)<=(i : Int):=by omega
  have i1 : (i : Int) < (bks.length : Int):=by omega
  have HQP:=zs5 xr hm size hs;have HP16:=zfb xr;have hpo : ∀ (v : Value) (w : World) (r : ReadsR 3 zak w.heap.size w v xr),_:=fun v w r=>zcv v xr w hfit r
  have hbl : ∀ (v : Value) (w : World) (r : ReadsR 3 zak w.heap.size w v xr),_:=fun v w r=>zmw v xr size w (by omega) hfit r
  have hfb : zb9 (belowM xr size):=zsw xr size
  obtain ⟨P,hP⟩ : ∃ P,pagesOf xr=P:=⟨_,rfl⟩
  obtain ⟨M,hM⟩ : ∃ M,belowM xr size=M:=⟨_,rfl⟩
  simp only [hP] at hpo;simp only [hM] at hbl hfb;rw [hP,hM] at HQP ⊢;rw [hP] at HP16;have hpm : ∀ (v : Value) (w : World) (r : ReadsR 3 zak w.heap.size w v M),_:=fun v w r=>zcv v M w hfb r
  obtain ⟨Q,hQ⟩ : ∃ Q,pagesOf M=Q:=⟨_,rfl⟩
  simp only [hQ] at hpm;rw [hQ] at HQP ⊢;have hdr : ∀ (v1 v2 vl : Value) (w : World) (hbase : base<=w.heap.size) (own : OwnP base w v1 v2 cs ps) (r : Reads w.heap.size w vl ((P.drop Q.length).map (Value.int .i64))),_:=fun v1 v2 vl w hbase own r=>zh4 base v1 v2 vl cs ps (P.drop Q.length) w hbase own r
  obtain ⟨D,hD⟩ : ∃ D,zaj (cs,ps) (P.drop Q.length)=D:=⟨_,rfl⟩
  simp only [hD] at hdr ⊢;clear hP hM hQ hD;obtain ⟨D1,D2⟩:=D;simp only at hdr ⊢;rw [hW0] at pA a0 a1 a2 a3 a4;clear hW1 hW1b z1 own own0 hmi d1 kA kR hW0 z0 d0 hg0
  go_enter Tryz.func239,Tryz.ntmps239
  go_upto_region 2 with fail
  rw [<- HW1.out];clear HW1 pA a0 a1 a2 a3 a4;have T2:=za0 kB 2
  go_wp2_with fail
  refine (hpo _ _ rm1).mono ?_;rintro e w2 ⟨vh,rfl,oh,hnn,b2⟩
  obtain ⟨hg,hc,hvh⟩ : ∃ hg hc,vh = .slice (some ⟨hg,0,none⟩) P.length hc:=by
    rcases oh.2 with ⟨e,he⟩ | ⟨g',cap',cur,e,_⟩
    · exact absurd e hnn
    · exact ⟨g',cap',e⟩
  subst hvh;clear hnn;have kA2:=kb0 b2 kA1;have kR2:=kb0 b2 kR1;have kB2:=kb0 b2 kB;have own2:=own1.below b2;have om2:=za9 om1 b2;have rm2 : ReadsR 3 zak w2.heap.size w2 (.slice om xr.length cm) xr:=ReadsR.of_own zat om2;have d2:=za1 dW b2;have sz2:=b2.size;clear b2 kA1 kR1 kB own1 om1 rm1 dW T2;have T2:=za0 kB2 2
  go_wp2_with fail
  refine (hbl _ _ rm2).mono ?_;rintro e w3 ⟨m',rfl,om3,-,b3⟩;have hap:=apart_new own2.b (Nat.le_refl _) (fun q hq=>(om3.lt q hq).1) i;obtain ⟨om',cm',hm'⟩:=za4 om3;subst hm';have kA3:=kb0 b3 kA2;have kR3:=kb0 b3 kR2;have kB3:=kb0 b3 kB2;have oh3:=za9 oh b3;have sz3:=b3.size;have hp:=zwh kB3 (.int .i64 size) (.slice om' M.length cm');have lA:=za2 kA3;have lR:=za2 kR3;have own4:=(own2.below b3).away kB3 hp.2 (fun q hq=>by cases hq;show g ≠ w.heap.size+1+1;omega);have om4 : World.ownsRow _ base 172 3 (.slice om' M.length cm') M.length (M.flatMap zak):=zah (zbc om3 hp.2 (by omega)) (by omega);have oh4 : World.ownsRow _ W1.heap.size 2 1 (.slice (some ⟨hg,0,none⟩) P.length hc) P.length (P.map (Value.int .i64)):=zbc oh3 hp.2 (by omega);have kA4:=(hp.2.block _ lA (by omega)).trans kA3;have kR4:=(hp.2.block _ lR (by omega)).trans kR3;have d4:=(za1 d2 b3).trans (hp.2.toBelow (by omega) (by omega));have sz4:=hp.2.size;have kB4:=hp.1;have f1:=za8 kB3 1;have q1:=za0 kB3 1;have f2:=za8 kB3 2;have q2:=za0 kB3 2
  obtain ⟨W4,hW4⟩ : ∃ W4,W4=(w3.setCell ⟨w.heap.size+1+1,1,none⟩ (.int .i64 size)).setCell ⟨w.heap.size+1+1,2,none⟩ (.slice om' M.length cm'):=⟨_,rfl⟩
  rw [<- hW4] at own4 om4 oh4 kA4 kR4 kB4 d4 sz4;have HW4 : Hid (W4 = _):=hW4;clear hW4 hp kA3 kR3 kB3 kA2 kR2 kB2 own2 om2 rm2 om3 b3 d2 oh oh3 T2
  go_upto_region 4 with fail
  rw [<- HW4.out];clear HW4 f1 q1 f2 q2;have HAP : Hid _:=hap;clear hap
  go_cut [] (fun wx=>∃ y1 d1 y2 d2,wx.heap[w.heap.size]? = some (.cells #[.slice y1 D1.length d1,.slice y2 D2.length d2,.slice (some ⟨g,0,none⟩) bks.length kb] 30 (0,0))/\wx.heap[w.heap.size+1]? = some (.cells #[.slice none 0 0,.slice none 0 0,.slice none 0 0] 30 (0,0))/\wx.heap[w.heap.size+1+1]? = some (.cells #[.string xn,.int .i64 size,.slice om' M.length cm',.bool xf,.int .i64 xe] 117 (0,0))/\OwnS base wx (.slice y1 D1.length d1) (.slice y2 D2.length d2) (.slice (some ⟨g,0,none⟩) bks.length kb) D1 D2 bks/\wx.ownsRow base 172 3 (.slice om' M.length cm') M.length (M.flatMap zak)/\Below w.heap.size w wx)
  case first =>
    have rm4 : ReadsR 3 zak W4.drew.heap.size W4.drew (.slice om' M.length cm') M:=ReadsR.of_own zat (za9 om4 ((Below.refl _ _).drew));have ownd:=own4.below ((Below.refl _ W4).drew);have ohd:=za9 oh4 ((Below.refl _ W4).drew);have A0 : W4.drew.cell? ⟨w.heap.size,0,none⟩=some (.slice o1 cs.length k1):=za0 kA4 0;have A1 : W4.drew.cell? ⟨w.heap.size,1,none⟩=some (.slice o2 ps.length k2):=za0 kA4 1;have B2 : W4.drew.cell? ⟨w.heap.size+1+1,2,none⟩=some (.slice om' M.length cm'):=za0 kB4 2;have hb4 : base<=W4.drew.heap.size:=by show base<=W4.heap.size;omega
    have g0 : (0 : Int)<=(Q.length : Int):=by omega
    have g1 : (Q.length : Int)<=(P.length : Int):=by omega
    have g2 : Q.length<=P.length:=HQP
    have g3 : P.length<=hc:=by
      rcases oh4.2 with ⟨e,he⟩ | ⟨g',cap',cur,e,_,_,hnc,_⟩
      · cases e
      · cases e;exact hnc
    by_cases hcq : hc=Q.length
    · subst hcq
      go_region_law (first
        | (go_simp;go_at_call 265;refine (hpm _ _ rm4).mono ?_;rintro e w7 ⟨vp,rfl,op7,-,b7⟩;obtain ⟨po,pc,hpv⟩:=za4 op7;subst hpv;have kA7:=kb0 b7 kA4;have own7:=ownd.below b7;have oh7:=za9 ohd b7;have hb7:=Nat.le_trans hb4 b7.size;have E0:=za0 kA7 0;have E1:=za0 kA7 1;have rd7:=znq (Reads.of_own oh7) Q.length g2;rw [if_pos rfl,Nat.sub_self,Nat.sub_eq_zero_of_le g3] at rd7;dsimp only)
        | (go_simp;go_at_call 266;refine (hdr _ _ _ _ hb7 own7.p rd7).mono ?_;rintro e w8 ⟨u1,u2,rfl,ow8,b8⟩;obtain ⟨y1,d1,y2,d2,e1,e2⟩:=ow8.forms;subst e1 e2;have kA8:=kb0 b8 kA7;have q0:=za0 kA8 0;have q1:=za0 kA8 1;have f0:=za8 kA8 0;have f1:=za8 kA8 1;dsimp only))
      all_goals
        have hq:=zir kA8 (.slice y1 D1.length d1) (.slice y2 D2.length d2);have b78:=za1 (za1 (zar (Below.refl _ W4)) b7) b8
        have own8 : OwnS base w8 (.slice y1 D1.length d1) (.slice y2 D2.length d2) (.slice (some ⟨g,0,none⟩) bks.length kb) D1 D2 bks:=⟨ow8,(own4.below b78).b,own4.a⟩
        have om8:=za9 om4 b78;have kR8:=kb0 b78 kR4;have kB8:=kb0 b78 kB4;have sz78:=b78.size;have HR : Hid _:=And.intro hq.1 (And.intro ((hq.2.block _ (za2 kR8) (by omega)).trans kR8) (And.intro ((hq.2.block _ (za2 kB8) (by omega)).trans kB8) (And.intro (own8.answer kA8 hq.2) (And.intro (zai om8 (fun q hq' hqv=>hq.2.block q hq' (fun hx=>zaa om8 kA8 (by decide) (by rw [<- hx];exact hqv)))) ((za1 d4 b78).trans (hq.2.toBelow (by omega) (Nat.le_refl _)))))));clear hq b78 own8 om8 kR8 kB8 kA8 kA7 E0 E1 A0 A1 B2 ow8 b7 b8 op7 own7 own4 ownd om4 kA4 kR4 kB4 d4 rm4 oh4 ohd oh7 rd7
        go_wp2_with fail
        go_meet
        exact ⟨_,_,_,_,HR.out⟩
    · skip
      go_region_law (first
        | (go_simp;go_at_call 265;refine (hpm _ _ rm4).mono ?_;rintro e w7 ⟨vp,rfl,op7,-,b7⟩;obtain ⟨po,pc,hpv⟩:=za4 op7;subst hpv;have kA7:=kb0 b7 kA4;have own7:=ownd.below b7;have oh7:=za9 ohd b7;have hb7:=Nat.le_trans hb4 b7.size;have E0:=za0 kA7 0;have E1:=za0 kA7 1;have rd7:=znq (Reads.of_own oh7) Q.length g2;rw [if_neg hcq] at rd7;dsimp only)
        | (go_simp;go_at_call 266;refine (hdr _ _ _ _ hb7 own7.p rd7).mono ?_;rintro e w8 ⟨u1,u2,rfl,ow8,b8⟩;obtain ⟨y1,d1,y2,d2,e1,e2⟩:=ow8.forms;subst e1 e2;have kA8:=kb0 b8 kA7;have q0:=za0 kA8 0;have q1:=za0 kA8 1;have f0:=za8 kA8 0;have f1:=za8 kA8 1;dsimp only))
      all_goals
        have hq:=zir kA8 (.slice y1 D1.length d1) (.slice y2 D2.length d2);have b78:=za1 (za1 (zar (Below.refl _ W4)) b7) b8
        have own8 : OwnS base w8 (.slice y1 D1.length d1) (.slice y2 D2.length d2) (.slice (some ⟨g,0,none⟩) bks.length kb) D1 D2 bks:=⟨ow8,(own4.below b78).b,own4.a⟩
        have om8:=za9 om4 b78;have kR8:=kb0 b78 kR4;have kB8:=kb0 b78 kB4;have sz78:=b78.size;have HR : Hid _:=And.intro hq.1 (And.intro ((hq.2.block _ (za2 kR8) (by omega)).trans kR8) (And.intro ((hq.2.block _ (za2 kB8) (by omega)).trans kB8) (And.intro (own8.answer kA8 hq.2) (And.intro (zai om8 (fun q hq' hqv=>hq.2.block q hq' (fun hx=>zaa om8 kA8 (by decide) (by rw [<- hx];exact hqv)))) ((za1 d4 b78).trans (hq.2.toBelow (by omega) (Nat.le_refl _)))))));clear hq b78 own8 om8 kR8 kB8 kA8 kA7 E0 E1 A0 A1 B2 ow8 b7 b8 op7 own7 own4 ownd om4 kA4 kR4 kB4 d4 rm4 oh4 ohd oh7 rd7
        go_wp2_with fail
        go_meet
        exact ⟨_,_,_,_,HR.out⟩
  case rest =>
    rename World=>W5
    obtain ⟨y1,d1,y2,d2,kA5,kR5,kB5,own5,om5,d5⟩:=hcut;have sz5:=d5.size;have hb5 : base<=W5.heap.size:=by omega
    clear kA4 kR4 kB4 own4 om4 d4 hdr hpm oh4 hpo hbl;obtain ⟨S0,S1,S2⟩:=cq3 kA5;obtain ⟨T0,T1,T2,T3,T4⟩:=cq5 kB5
    go_wp2_with fail
    refine (zh3 base i _ _ _ D1 D2 bks ⟨xn,size,.slice om' M.length cm',M,xf,xe⟩ _ hb5 hi hl own5 om5 HAP.out).mono ?_;rintro e w6 ⟨ub,rfl,ow,b6⟩;obtain ⟨_,_,_,_,o6,c6,-,-,hub⟩:=ow.forms;rw [List.length_set] at hub;subst hub;have kR6:=kb0 b6 kR5;have HS : Hid _:=zaq (w:=w) kR6 (by omega) (za1 d5 b6) (.slice y1 D1.length d1) (.slice y2 D2.length d2) (.slice o6 bks.length c6);have HF : Hid _:=OwnS.answer ow kR6 HS.out.2.1;obtain ⟨r0,r1,r2⟩:=cq3 kR6;obtain ⟨e0,e1,e2⟩:=oq3 kR6;clear ow b6 kR6 own5 om5 kA5 kR5 kB5 S0 S1 S2 T0 T1 T2 T3 T4 d5
    go_wp2_with fail
    exact bodyPost_ret (v:=.agg #[.slice y1 D1.length d1,.slice y2 D2.length d2,.slice o6 bks.length c6]) (by simp [results,Tryz.results239,go_sem,za0 HS.out.1]) rfl ⟨_,_,_,_,rfl,⟨HF.out.1,HF.out.2,HF.out.3⟩,HS.out.2.2⟩
theorem zud (n : Nat) (hn : n<=12) (w : World) :
    Calls Tryz.prog 283 #[.slice none 0 0,.int .i64 n] w fun e w'=>∃ v : Value,e = .returned v/\w'.ownsRow w.heap.size 117 5 v 0 []/\Below w.heap.size w w':=by
  obtain ⟨i0,hi,hz0,hz1,hz2⟩:=info_parts Tryz.infoBook;have h1 : ¬ ((n : Int) < 0):=by omega
  rcases Nat.eq_zero_or_pos n with h0 | hpos
  · subst h0
    go_enter Tryz.func283,Tryz.ntmps283
    go_wp2_with fail
    go_ret;exact ⟨_,rfl,World.ownsRow_nil _ _ _ _,Below.refl _ _⟩
  · have h2 : (0 : Int) < (n : Int):=by omega
    have hrz : ∀ ty,(Builtin.append_ #[28,3] ty #[.slice none 0 0,.int .i64 (n : Int)]).run Tryz.prog w = .ok (.slice (some ⟨w.heap.size,0,none⟩) n (grownCap w n 0 117)) (w.drew.alloc (.cells (Builtin.zeroCells (Value.agg #[.string ByteArray.empty,.int .i64 0,.slice none 0 0,.bool false,.int .i64 0]).cells n ++ Builtin.zeroCells (Value.agg #[.string ByteArray.empty,.int .i64 0,.slice none 0 0,.bool false,.int .i64 0]).cells (grownCap w n 0 117 - n)) 117)):=fun ty =>
      Lib.run_append_nil_zeros w 28 3 ty 117 i0 _ .i64 .i64 Tryz.underlying28 Tryz.underlying3 hi hz0 n hpos (by rw [hz1];omega) (by omega) (by rw [hz2];omega)
    have hG1:=grownCap_ge w n 0 117;have hG2:=grownCap_le_maxLen w n 0 117 (by unfold maxLen;omega);generalize grownCap w n 0 117=G at hrz hG1 hG2
    have hown:=World.ownsRow_made (base:=w.heap.size) (e:=117) (size:=5) w.drew (Builtin.zeroCells (Value.agg #[.string ByteArray.empty,.int .i64 0,.slice none 0 0,.bool false,.int .i64 0]).cells n ++ Builtin.zeroCells (Value.agg #[.string ByteArray.empty,.int .i64 0,.slice none 0 0,.bool false,.int .i64 0]).cells (G - n)) G (Nat.le_refl _) hG2 (by
      rw [Array.size_append,size_zeroCells,size_zeroCells]
      show n * 5+(G - n) * 5=G * 5
      omega)
    have hb : Below w.heap.size w (w.drew.alloc (.cells (Builtin.zeroCells (Value.agg #[.string ByteArray.empty,.int .i64 0,.slice none 0 0,.bool false,.int .i64 0]).cells n ++ Builtin.zeroCells (Value.agg #[.string ByteArray.empty,.int .i64 0,.slice none 0 0,.bool false,.int .i64 0]).cells (G - n)) 117)):=za3 (zar (Below.refl _ _))
    obtain ⟨M,hM⟩ : ∃ M,M=Builtin.zeroCells (Value.agg #[.string ByteArray.empty,.int .i64 0,.slice none 0 0,.bool false,.int .i64 0]).cells n ++ Builtin.zeroCells (Value.agg #[.string ByteArray.empty,.int .i64 0,.slice none 0 0,.bool false,.int .i64 0]).cells (G - n):=⟨_,rfl⟩
    rw [<- hM] at hown hb;simp only [<- hM] at hrz;clear hM;have HO : Hid _:=And.intro hown hb;clear hown hb;unfold maxLen at hG2
    go_enter Tryz.func283,Tryz.ntmps283
    go_wp2_with (at_builtin;refine Lib.wpList_append_run _ rfl _ _ _ _ rfl _ _ rfl rfl _ _ (hrz _) ?_)
    all_goals
      go_ret;exact ⟨_,rfl,HO.out.1,HO.out.2⟩
theorem zjz (c : Nat) (va vb : Value) (xs ys : List Bk) (w : World) (hl : xs.length+ys.length<=12) (k0 : w.cell? ⟨c,0,none⟩=some va) (k1 : w.cell? ⟨c,1,none⟩=some vb) (hma : ∀ b ∈ xs,∃ o k cap,b.m = .slice o k cap) (hmb : ∀ b ∈ ys,∃ o k cap,b.m = .slice o k cap) (ra : ReadsR 5 bookC w.heap.size w va xs) (rb : ReadsR 5 bookC w.heap.size w vb ys) :
    Calls Tryz.prog 267 #[.slice (some ⟨c,0,none⟩) 2 2] w fun e w'=>∃ v : Value,e = .returned v/\w'.ownsRow w.heap.size 117 5 v (xs ++ ys).length ((xs ++ ys).flatMap bookC)/\Below w.heap.size w w':=by
  obtain ⟨i0,hi,hz0,hz1,hz2⟩:=info_parts Tryz.infoBook;obtain ⟨oa,ca,rfl⟩:=ra.form;obtain ⟨ob,cb,rfl⟩:=rb.form;have HLX : Hid ((xs.flatMap bookC).length=xs.length * 5):=zbb zae xs;have HLY : Hid ((ys.flatMap bookC).length=ys.length * 5):=zbb zae ys;have HOX : Hid _:=ze6 xs hma;have HOY : Hid _:=ze6 ys hmb;have g1 : ¬ ((xs.length : Int) < 0):=by omega
  have g2 : ¬ ((xs.length : Int)+(ys.length : Int) < 0):=by omega
  have w2 : IntKind.i64.wrap ((xs.length : Int)+(ys.length : Int))=(xs.length : Int)+(ys.length : Int):=by rw [IntKind.wrap_i64];omega
  have hgr : ∀ w : World,_:=fun w=>zud (xs.length+ys.length) hl w
  rw [Int.natCast_add] at hgr;have RA : Hid (ReadsR 5 bookC w.heap.size w (.slice oa xs.length ca) xs):=ra;have RB : Hid (ReadsR 5 bookC w.heap.size w (.slice ob ys.length cb) ys):=rb
  have lc : c < w.heap.size:=by
    rcases Nat.lt_or_ge c w.heap.size with q | q
    · exact q
    · simp [World.cell?,Array.getElem?_eq_none q] at k0
  have HM1 : Hid (0+xs.length<=maxLen):=by rw [Hid];unfold maxLen;omega
  have HB1 : Hid ((0+xs.length) * 64<=140737488355328):=by rw [Hid];omega
  have HM2 : Hid (xs.length+ys.length<=maxLen):=by rw [Hid];unfold maxLen;omega
  have HB2 : Hid ((xs.length+ys.length) * 64<=140737488355328):=by rw [Hid];omega
  clear ra rb
  go_enter Tryz.func267,Tryz.ntmps267
  go_wp2_with fail
  refine wp_loop_rounds 3 ?_;rw [rounds_succ]
  go_wp2_with fail
  rw [rounds_succ]
  go_wp2_with fail
  rw [rounds_succ]
  go_wp2_with fail
  refine (hgr _).mono ?_;rintro e w1 ⟨v1,rfl,ow1,b1⟩;have q0:=(b1.cell (p:=⟨c,0,none⟩) lc).trans k0;have q1:=(b1.cell (p:=⟨c,1,none⟩) lc).trans k1;have HSX : Hid _:=zd4 zae (by decide) (RA.out.below b1);have hs1:=b1.size;clear k0 k1
  go_wp2_with fail
  refine wp_loop_rounds 3 ?_;rw [rounds_succ]
  go_wp2_with (at_builtin;refine zb5 rfl _ _ 28 rfl w.heap.size 117 i0 (.agg #[.string ByteArray.empty,.int .i64 0,.slice none 0 0,.bool false,.int .i64 0]) 5 64 Tryz.underlying28 hi hz0 hz1 hz2 rfl (by decide) v1 0 [] rfl ow1 oa xs.length ca (xs.flatMap bookC) rfl HLX.out HSX.out HOX.out HM1.out HB1.out hs1 ?_)
  intro v2 w2 ow2 grow2 nil2;have b2 : Below w.heap.size w w2:=b1.grown grow2 hs1 (fun q hq=>(ow1.lt q hq).1);replace ow2 : w2.ownsRow w.heap.size 117 5 v2 xs.length (xs.flatMap bookC):=by simpa using ow2
  have p1:=(b2.cell (p:=⟨c,1,none⟩) lc).trans ((b1.cell (p:=⟨c,1,none⟩) lc).symm.trans q1);have HSY : Hid _:=zd4 zae (by decide) (RB.out.below b2);have hs2:=b2.size;clear grow2 nil2 q0 q1 HSX
  go_wp2_with fail
  rw [rounds_succ]
  go_wp2_with (at_builtin;refine zb5 rfl _ _ 28 rfl w.heap.size 117 i0 (.agg #[.string ByteArray.empty,.int .i64 0,.slice none 0 0,.bool false,.int .i64 0]) 5 64 Tryz.underlying28 hi hz0 hz1 hz2 rfl (by decide) v2 xs.length (xs.flatMap bookC) rfl ow2 ob ys.length cb (ys.flatMap bookC) rfl HLY.out HSY.out HOY.out HM2.out HB2.out hs2 ?_)
  intro v3 w3 ow3 grow3 nil3;have b3 : Below w.heap.size w w3:=b2.grown grow3 hs2 (fun q hq=>(ow2.lt q hq).1);have HO : Hid (w3.ownsRow w.heap.size 117 5 v3 (xs ++ ys).length ((xs ++ ys).flatMap bookC)):=by rw [Hid,List.length_append,List.flatMap_append];exact ow3
  clear grow3 nil3 p1 HSY ow3 ow2 ow1
  go_wp2_with fail
  rw [rounds_succ]
  go_wp2_with fail
  go_ret;exact ⟨_,rfl,HO.out,b3⟩
end Go.Proofs.YtfkkapdofjhgpaaGreatDoor
