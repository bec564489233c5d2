import Derived.Deep.RegionHeld3
import Derived.Deep.DeepCutAuto
import Derived.Test.YtfkkapdofjhgpaaGreatDoorM23
import Derived.Test.YtfkkapdofjhgpaaGreatDoorM25
import Derived.Test.YtfkkapdofjhgpaaGreatDoorM29
import Derived.Test.YtfkkapdofjhgpaaGreatDoorM31
import Derived.Test.YtfkkapdofjhgpaaGreatDoorM32
set_option maxHeartbeats 12800000
namespace Go.Proofs.YtfkkapdofjhgpaaGreatDoor
open Go.RowKit
set_option linter.unusedVariables false
set_option maxRecDepth 100000
theorem zu9 (base : Nat) (v1 v2 vb : Value) (cs ps : List Int) (bks : List Bk) (nm ot : ByteArray) (at_ va ep : Int) (w : World) (ad : Nat->Addr) (hv : Vars w ad) (hbase : base<=w.heap.size) (inv : ShInv ⟨cs,ps,bks.map Bk.pb⟩) (ho : opOk ⟨2,nm,ot,at_,va,ep⟩=true) (hr : za5 (bks.map Bk.pb) ⟨2,nm,ot,at_,va,ep⟩=0) (own : OwnS base w v1 v2 vb cs ps bks) :
    Calls Tryz.prog 208 #[.agg #[v1,v2,vb],.agg #[.int .i64 2,.string nm,.string ot,.int .i64 at_,.int .i64 va,.int .i64 ep]] w fun e w'=>ChPost ad base (doOp ⟨cs,ps,bks.map Bk.pb⟩ ⟨2,nm,ot,at_,va,ep⟩) e w'/\Below w.heap.size w w':=by
  have F:=zcm inv;obtain ⟨i,hi,hat,hop⟩:=zju inv ho hr (fun h=>by cases h);have HAT : Hid (zag bks nm=(i : Int)):=hat;have HOP : Hid _:=hop;clear hat hop;have hfit:=F.fit bks[i] (List.getElem_mem hi);have hl6:=F.few;have hln:=F.len;have hc1 : cs.length<=1048576:=by have:=F.c24;omega
  have HLN : Hid (cs.length=ps.length):=hln;clear hln;have hms : ∀ b ∈ bks,∃ o k cap,b.m = .slice o k cap:=fun b hb=>by obtain ⟨o,c,h⟩:=za4 (own.b.maps b hb);exact ⟨o,_,c,h⟩
  have HMS : Hid _:=hms;obtain ⟨o1,k1,o2,k2,ob,kb,rfl,rfl,rfl⟩:=own.forms;obtain ⟨W0,hW0,kA,kO,kR,d0,z0⟩:=zg0 w #[.slice o1 cs.length k1,.slice o2 ps.length k2,.slice ob bks.length kb] #[.int .i64 2,.string nm,.string ot,.int .i64 at_,.int .i64 va,.int .i64 ep] #[.slice none 0 0,.slice none 0 0,.slice none 0 0] 30 37 30;have HW0 : Hid (W0 = _):=hW0;have own0:=own.below d0;have hv0:=hv.below d0;have zr : w.heap.size+1+1 < W0.heap.size:=by omega
  have hb0 : base<=W0.heap.size:=by omega
  have HF : Hid _:=F;have HINV : Hid _:=inv;clear hW0 z0 own hv hms F inv ho hr hbase
  go_enter Tryz.func208,Tryz.ntmps208
  go_wp2_with fail
  rw [<- HW0.out];clear HW0;have hfb : ∀ (v : Value) (w : World) (r : ReadsR 5 bookC w.heap.size w v bks),_:=fun v w r=>zal v bks nm w HMS.out r
  obtain ⟨fi,hfi⟩ : ∃ fi,zag bks nm=fi:=⟨_,rfl⟩
  simp only [hfi] at hfb;have HFI : Hid (zag bks nm=fi):=hfi;clear hfi;refine (hfb _ _ own0.b.reads.row).mono ?_;rintro e w1 ⟨rfl,b1⟩;have kA1:=kb0 b1 kA;have kO1:=kb0 b1 kO;have kR1:=kb0 b1 kR;have own1:=own0.below b1;have hv1:=hv0.below b1;have d1:=za1 d0 b1;have hb1 : base<=w1.heap.size:=Nat.le_trans hb0 b1.size;have hlt1 : w.heap.size+1+1 < w1.heap.size:=Nat.lt_of_lt_of_le zr b1.size;clear b1 kA kO kR own0 hv0 d0 hb0 zr hfb;have hfi2:=HFI.out;rw [HAT.out] at hfi2;subst hfi2;obtain ⟨p0,p1,p2⟩:=cq3 kA1;obtain ⟨q0,q1,q2,q3,q4,q5⟩:=cq6 kO1
  go_wp2_with fail
  clear p0 p1 p2 q0 q1 q2 q3 q4 q5;refine (zq8 base i _ _ _ cs ps bks 2 nm ot at_ va ep _ ad hv1 hb1 hi hl6 HLN.out hc1 hfit own1).mono ?_;rintro e w2 ⟨hp,b2⟩
  cases hX : writtenS cs ps bks[i].rs at_ va with
  | none =>
    have HX : Hid (writtenS cs ps bks[i].rs at_ va=none):=hX;rw [hX] at hp;simp only [zs4] at hp;subst hp;clear hX;have kR2:=kb0 b2 kR1;have d2:=za1 d1 b2;have hs:=zaq (w:=w) kR2 (by omega) d2 (.slice none 0 0) (.slice none 0 0) (.slice none 0 0);obtain ⟨r0,r1,r2⟩:=cq3 kR2;obtain ⟨e0,e1,e2⟩:=oq3 kR2
    obtain ⟨W3,hW3⟩ : ∃ W3 : World,W3=((w2.setCell ⟨w.heap.size+1+1,0,none⟩ (.slice none 0 0)).setCell ⟨w.heap.size+1+1,1,none⟩ (.slice none 0 0)).setCell ⟨w.heap.size+1+1,2,none⟩ (.slice none 0 0):=⟨_,rfl⟩
    rw [<- hW3] at hs;have HW3 : Hid (W3 = _):=hW3;clear hW3 b2 kA1 kO1 own1 hv1 d1 kR1
    go_upto_region 20 with fail
    rw [<- HW3.out];clear HW3 r0 r1 r2 e0 e1 e2 kR2;have HS : Hid _:=zaq (w:=w) hs.1 (by omega) hs.2.2 (.slice none 0 0) (.slice none 0 0) (.slice none 0 0);obtain ⟨r0,r1,r2⟩:=cq3 hs.1;obtain ⟨e0,e1,e2⟩:=oq3 hs.1;clear hs d2
    go_wp2_with fail
    exact bodyPost_ret (v:=.tuple #[.agg #[.slice none 0 0,.slice none 0 0,.slice none 0 0],.int .i64 0,refErr ad 9]) (by simp [results,Tryz.results208,go_sem,za0 HS.out.1]) rfl ⟨by
      rw [(zpw hi HOP.out).2 HX.out]
      exact .inr ⟨rfl,rfl⟩,HS.out.2.2⟩
  | some X =>
    have HX : Hid (writtenS cs ps bks[i].rs at_ va=some X):=hX;rw [hX] at hp;simp only [zs4] at hp;clear hX;obtain ⟨⟨X1,X2⟩,X3⟩:=X;simp only at hp;obtain ⟨u1,u2,ub,m,rfl,ow2⟩:=hp
    obtain ⟨N,hN⟩ : ∃ N,bks.set i ⟨bks[i].nm,bks[i].sz,m,X3,bks[i].fx,bks[i].ep⟩=N:=⟨_,rfl⟩
    have HN : Hid (bks.set i ⟨bks[i].nm,bks[i].sz,m,X3,bks[i].fx,bks[i].ep⟩=N):=hN;rw [hN] at ow2;clear hN;obtain ⟨y1,j1,y2,j2,o6,c6,hu1,hu2,hub⟩:=ow2.forms;subst hu1 hu2 hub;have kR2:=kb0 b2 kR1;have d2:=za1 d1 b2;have hs:=zaq (w:=w) kR2 (by omega) d2 (.slice y1 X1.length j1) (.slice y2 X2.length j2) (.slice o6 N.length c6);have ow3:=OwnS.answer ow2 kR2 hs.2.1;obtain ⟨r0,r1,r2⟩:=cq3 kR2;obtain ⟨e0,e1,e2⟩:=oq3 kR2
    obtain ⟨W3,hW3⟩ : ∃ W3 : World,W3=((w2.setCell ⟨w.heap.size+1+1,0,none⟩ (.slice y1 X1.length j1)).setCell ⟨w.heap.size+1+1,1,none⟩ (.slice y2 X2.length j2)).setCell ⟨w.heap.size+1+1,2,none⟩ (.slice o6 N.length c6):=⟨_,rfl⟩
    rw [<- hW3] at hs ow3;have HW3 : Hid (W3 = _):=hW3;clear hW3 b2 kA1 kO1 own1 hv1 d1 kR1 ow2
    go_upto_region 20 with fail
    rw [<- HW3.out];clear HW3 r0 r1 r2 e0 e1 e2 kR2;have HS : Hid _:=zaq (w:=w) hs.1 (by omega) hs.2.2 (.slice y1 X1.length j1) (.slice y2 X2.length j2) (.slice o6 N.length c6);have HG : Hid _:=OwnS.answer ow3 hs.1 HS.out.2.1;obtain ⟨r0,r1,r2⟩:=cq3 hs.1;obtain ⟨e0,e1,e2⟩:=oq3 hs.1;clear hs ow3 d2
    go_wp2_with fail
    exact bodyPost_ret (v:=.tuple #[.agg #[.slice y1 X1.length j1,.slice y2 X2.length j2,.slice o6 N.length c6],.int .i64 0,.nilIface]) (by simp [results,Tryz.results208,go_sem,za0 HS.out.1]) rfl ⟨by
      rw [(zpw hi HOP.out).1 _ HX.out m,HN.out]
      exact .inl ⟨rfl,_,_,_,_,rfl,⟨HG.out.1,HG.out.2,HG.out.3⟩,rfl⟩,HS.out.2.2⟩
theorem zua (base : Nat) (v1 v2 vb : Value) (cs ps : List Int) (bks : List Bk) (nm ot : ByteArray) (at_ va ep : Int) (w : World) (ad : Nat->Addr) (hv : Vars w ad) (hbase : base<=w.heap.size) (inv : ShInv ⟨cs,ps,bks.map Bk.pb⟩) (ho : opOk ⟨3,nm,ot,at_,va,ep⟩=true) (hr : za5 (bks.map Bk.pb) ⟨3,nm,ot,at_,va,ep⟩=0) (own : OwnS base w v1 v2 vb cs ps bks) :
    Calls Tryz.prog 208 #[.agg #[v1,v2,vb],.agg #[.int .i64 3,.string nm,.string ot,.int .i64 at_,.int .i64 va,.int .i64 ep]] w fun e w'=>ChPost ad base (doOp ⟨cs,ps,bks.map Bk.pb⟩ ⟨3,nm,ot,at_,va,ep⟩) e w'/\Below w.heap.size w w':=by
  have F:=zcm inv;obtain ⟨i,hi,hat,hop⟩:=zju inv ho hr (fun h=>by cases h);have HAT : Hid (zag bks nm=(i : Int)):=hat;have HOP : Hid _:=hop;clear hat hop;have hfit:=F.fit bks[i] (List.getElem_mem hi);have hl6:=F.few;have hms : ∀ b ∈ bks,∃ o k cap,b.m = .slice o k cap:=fun b hb=>by obtain ⟨o,c,h⟩:=za4 (own.b.maps b hb);exact ⟨o,_,c,h⟩
  have HMS : Hid _:=hms;obtain ⟨o1,k1,o2,k2,ob,kb,rfl,rfl,rfl⟩:=own.forms;obtain ⟨W0,hW0,kA,kO,kR,d0,z0⟩:=zg0 w #[.slice o1 cs.length k1,.slice o2 ps.length k2,.slice ob bks.length kb] #[.int .i64 3,.string nm,.string ot,.int .i64 at_,.int .i64 va,.int .i64 ep] #[.slice none 0 0,.slice none 0 0,.slice none 0 0] 30 37 30;have HW0 : Hid (W0 = _):=hW0;have own0:=own.below d0;have hv0:=hv.below d0;have zr : w.heap.size+1+1 < W0.heap.size:=by omega
  have hb0 : base<=W0.heap.size:=by omega
  have HF : Hid _:=F;have HINV : Hid _:=inv;clear hW0 z0 own hv hms F inv ho hr hbase
  go_enter Tryz.func208,Tryz.ntmps208
  go_wp2_with fail
  rw [<- HW0.out];clear HW0;have hfb : ∀ (v : Value) (w : World) (r : ReadsR 5 bookC w.heap.size w v bks),_:=fun v w r=>zal v bks nm w HMS.out r
  obtain ⟨fi,hfi⟩ : ∃ fi,zag bks nm=fi:=⟨_,rfl⟩
  simp only [hfi] at hfb;have HFI : Hid (zag bks nm=fi):=hfi;clear hfi;refine (hfb _ _ own0.b.reads.row).mono ?_;rintro e w1 ⟨rfl,b1⟩;have kA1:=kb0 b1 kA;have kO1:=kb0 b1 kO;have kR1:=kb0 b1 kR;have own1:=own0.below b1;have hv1:=hv0.below b1;have d1:=za1 d0 b1;have hb1 : base<=w1.heap.size:=Nat.le_trans hb0 b1.size;have hlt1 : w.heap.size+1+1 < w1.heap.size:=Nat.lt_of_lt_of_le zr b1.size;clear b1 kA kO kR own0 hv0 d0 hb0 zr hfb;have hfi2:=HFI.out;rw [HAT.out] at hfi2;subst hfi2;obtain ⟨p0,p1,p2⟩:=cq3 kA1;obtain ⟨q0,q1,q2,q3,q4,q5⟩:=cq6 kO1
  go_wp2_with fail
  clear p0 p1 p2 q0 q1 q2 q3 q4 q5;refine (zjy base i at_ (-1) _ _ _ cs ps bks _ hb1 hi hl6 hfit own1).mono ?_;rintro e w2 ⟨u1,u2,ub,m,rfl,ow2,b2⟩
  obtain ⟨D,hD⟩ : ∃ D,dropped cs ps (pageOf bks[i].rs at_)=D:=⟨_,rfl⟩
  have HD : Hid (dropped cs ps (pageOf bks[i].rs at_)=D):=hD;simp only [hD] at ow2;clear hD
  obtain ⟨N,hN⟩ : ∃ N,bks.set i ⟨bks[i].nm,bks[i].sz,m,(mapped bks[i].rs at_ (-1)).1,bks[i].fx,bks[i].ep⟩=N:=⟨_,rfl⟩
  have HN : Hid (bks.set i ⟨bks[i].nm,bks[i].sz,m,(mapped bks[i].rs at_ (-1)).1,bks[i].fx,bks[i].ep⟩=N):=hN;simp only [hN] at ow2;clear hN;obtain ⟨y1,j1,y2,j2,o6,c6,hu1,hu2,hub⟩:=ow2.forms;subst hu1 hu2 hub;have kR2:=kb0 b2 kR1;have d2:=za1 d1 b2;have hs:=zaq (w:=w) kR2 (by omega) d2 (.slice y1 D.1.1.length j1) (.slice y2 D.1.2.length j2) (.slice o6 N.length c6);have ow3:=OwnS.answer ow2 kR2 hs.2.1;obtain ⟨r0,r1,r2⟩:=cq3 kR2;obtain ⟨e0,e1,e2⟩:=oq3 kR2
  obtain ⟨W3,hW3⟩ : ∃ W3 : World,W3=((w2.setCell ⟨w.heap.size+1+1,0,none⟩ (.slice y1 D.1.1.length j1)).setCell ⟨w.heap.size+1+1,1,none⟩ (.slice y2 D.1.2.length j2)).setCell ⟨w.heap.size+1+1,2,none⟩ (.slice o6 N.length c6):=⟨_,rfl⟩
  rw [<- hW3] at hs ow3;have HW3 : Hid (W3 = _):=hW3;clear hW3 ow2 b2 kA1 kO1 own1 hv1 d1 kR1
  go_upto_region 20 with fail
  rw [<- HW3.out];clear HW3 r0 r1 r2 e0 e1 e2 kR2;have HS : Hid _:=zaq (w:=w) hs.1 (by omega) hs.2.2 (.slice y1 D.1.1.length j1) (.slice y2 D.1.2.length j2) (.slice o6 N.length c6);have HG : Hid _:=OwnS.answer ow3 hs.1 HS.out.2.1;obtain ⟨r0,r1,r2⟩:=cq3 hs.1;obtain ⟨e0,e1,e2⟩:=oq3 hs.1;clear hs ow3 d2
  go_wp2_with fail
  exact bodyPost_ret (v:=.tuple #[.agg #[.slice y1 D.1.1.length j1,.slice y2 D.1.2.length j2,.slice o6 N.length c6],.int .i64 0,.nilIface]) (by simp [results,Tryz.results208,go_sem,za0 HS.out.1]) rfl ⟨by
    rw [zy4 hi HOP.out m,HD.out,HN.out]
    exact .inl ⟨rfl,_,_,_,_,rfl,⟨HG.out.1,HG.out.2,HG.out.3⟩,rfl⟩,HS.out.2.2⟩
theorem zq9 {w : World} {base g n cap s : Nat} {e : TypeId} {L : List Int} (h : w.ownsRow base e 1 (.slice (some ⟨g,0,none⟩) n cap) n (L.map (Value.int .i64))) (hs : s<=n) (hn : n=L.length) : Reads w.heap.size w (.slice (some ⟨g,0,none⟩) s cap) ((L.take s).map (Value.int .i64)):=by
  have hr:=Reads.of_own h;obtain ⟨o,cap',e1,hm,hc,hroom⟩:=hr;simp only [Value.slice.injEq] at e1;obtain ⟨rfl,e2,rfl⟩:=e1;rw [List.length_map] at e2 hm hroom;have hl : ((L.take s).map (Value.int .i64)).length=s:=by rw [List.length_map,List.length_take];omega
  refine ⟨some ⟨g,0,none⟩,cap,by rw [hl],by rw [hl];omega,fun j u hj=>?_,by rw [hl];omega⟩;have hjs : j < s:=by have:=(List.getElem?_eq_some_iff.1 hj).1;rwa [hl] at this
  refine hc j u ?_;rw [List.getElem?_map,List.getElem?_take_of_lt hjs] at hj;rw [List.getElem?_map];exact hj
theorem zmw (v : Value) (rs : List (Int × Int × Int)) (size : Int) (w : World) (hsz : -9223372036854775808<=size/\size<=9223372036854775807) (hfit : zb9 rs) (r : ReadsR 3 zak w.heap.size w v rs) :
    Calls Tryz.prog 268 #[v,.int .i64 size] w fun e w'=>∃ v' : Value,e = .returned v'/\w'.ownsRow w.heap.size 172 3 v' (belowM rs size).length ((belowM rs size).flatMap zak)/\v' ≠ .slice none 0 0/\Below w.heap.size w w':=by
  go_enter Tryz.func268,Tryz.ntmps268
  go_wp2_with fail
  refine (zdf v rs _ hfit r).mono ?_;rintro e w1 ⟨rfl,b1⟩;have r1:=(r.below b1).mono b1.size;have bs:=b1.size;cases hok : mapOk rs
  · have HV : Hid (belowM rs size = []):=by rw [Hid,belowM,if_neg (by rw [hok];simp)]
    have HO : Hid ((w1.alloc (.cells #[] 172)).ownsRow w.heap.size 172 3 (.slice (some ⟨w1.heap.size,0,none⟩) 0 0) 0 []):=zah (zd3 w1) bs;have hb:=za3 (o:=.cells #[] 172) b1;clear r r1
    go_wp2_with fail
    go_ret;exact ⟨.slice (some ⟨w1.heap.size,0,none⟩) 0 0,rfl,by rw [HV.out];exact HO.out,by simp,hb⟩
  · have HV0 : Hid (belowM rs size=mapOf (cutAt (za7 rs) size)):=by rw [Hid,belowM,if_pos hok]
    have HOK : Hid _:=hok
    obtain ⟨s,hS⟩ : ∃ s : Nat,(s : Int)=min (max size 0) 16:=⟨(min (max size 0) 16).toNat,by omega⟩
    have hs16 : s<=16:=by omega
    have HMT : Hid (mapOf ((za7 rs).take s)=mapOf (cutAt (za7 rs) size)):=zry (za7 rs) size s (zac rs) hS;have HTL : Hid (((za7 rs).take s).length<=16):=by rw [Hid,List.length_take];omega
    have HTR : Hid (∀ j,j < ((za7 rs).take s).length->-1<=((za7 rs).take s).getD j 0/\((za7 rs).take s).getD j 0<=23):=fun j hj=>by
      rw [List.length_take,zac] at hj;rw [zno _ _ _ (by omega)];exact zbg rs HOK.out j (by omega)
    clear hok
    go_wp2_with fail
    refine (zdj v rs _ HOK.out r1).mono ?_;rintro e w3 ⟨c,rfl,hcl,b3⟩;have hpl:=zac rs;have hcs:=zio (za7 rs) c hcl;rw [hpl] at hcs;have H1 : Hid (c.all (·.oneCell')=true):=zep _ c hcl;have HI : Hid ((Tryz.prog.info? 302).map (·.size)=some c.size):=by rw [hcs];exact zrv
    have HZ : Hid ((#[.int .i64 0,.int .i64 0,.int .i64 0,.int .i64 0,.int .i64 0,.int .i64 0,.int .i64 0,.int .i64 0,.int .i64 0,.int .i64 0,.int .i64 0,.int .i64 0,.int .i64 0,.int .i64 0,.int .i64 0,.int .i64 0] : Array Value).size=c.size):=by rw [hcs];rfl
    have HROW : Hid ((w3.alloc (.cells #[.int .i64 0,.int .i64 0,.int .i64 0,.int .i64 0,.int .i64 0,.int .i64 0,.int .i64 0,.int .i64 0,.int .i64 0,.int .i64 0,.int .i64 0,.int .i64 0,.int .i64 0,.int .i64 0,.int .i64 0,.int .i64 0] 302)).heap[w3.heap.size]? = some (.cells #[.int .i64 0,.int .i64 0,.int .i64 0,.int .i64 0,.int .i64 0,.int .i64 0,.int .i64 0,.int .i64 0,.int .i64 0,.int .i64 0,.int .i64 0,.int .i64 0,.int .i64 0,.int .i64 0,.int .i64 0,.int .i64 0] 302 (0,0))):=heap_alloc_new w3 _;have own:=zoh w3 c (za7 rs) hcl hpl;have bA:=za3 (o:=.cells c 302) b3;have HRD : Hid _:=zq9 own hs16 hpl.symm;have HBS : Hid _:=bA;have hsw : (w3.alloc (.cells #[.int .i64 0,.int .i64 0,.int .i64 0,.int .i64 0,.int .i64 0,.int .i64 0,.int .i64 0,.int .i64 0,.int .i64 0,.int .i64 0,.int .i64 0,.int .i64 0,.int .i64 0,.int .i64 0,.int .i64 0,.int .i64 0] 302)).setRow w3.heap.size c=w3.alloc (.cells c 302):=World.setRow_alloc_new w3 #[.int .i64 0,.int .i64 0,.int .i64 0,.int .i64 0,.int .i64 0,.int .i64 0,.int .i64 0,.int .i64 0,.int .i64 0,.int .i64 0,.int .i64 0,.int .i64 0,.int .i64 0,.int .i64 0,.int .i64 0,.int .i64 0] c _;have HSS : Hid ((s : Int)=min (max size 0) 16):=hS
    have fin : ∀ (w5 : World) (v' : Value),w5.ownsRow (w3.alloc (.cells c 302)).heap.size 172 3 v' (mapOf ((za7 rs).take s)).length ((mapOf ((za7 rs).take s)).flatMap zak)->Below (w3.alloc (.cells c 302)).heap.size (w3.alloc (.cells c 302)) w5->Hid (w5.ownsRow w.heap.size 172 3 v' (belowM rs size).length ((belowM rs size).flatMap zak)/\Below w.heap.size w w5):=fun w5 v' own5 b5=>by
      rw [HMT.out] at own5;rw [HV0.out];exact ⟨zah own5 (Nat.le_trans bs HBS.out.size),za1 (za1 b1 HBS.out) b5⟩
    have FIN : Hid _:=fin;clear own hpl hcl hcs bA hS fin HMT HV0;by_cases ha : size < 0
    · obtain rfl : s=0:=by have:=HSS.out;omega
      have hmm : min (max size 0) 16=0:=by omega
      go_wp2_with (with_reducible refine zbt rfl _ _ 302 rfl w3.heap.size rfl c rfl #[.int .i64 0,.int .i64 0,.int .i64 0,.int .i64 0,.int .i64 0,.int .i64 0,.int .i64 0,.int .i64 0,.int .i64 0,.int .i64 0,.int .i64 0,.int .i64 0,.int .i64 0,.int .i64 0,.int .i64 0,.int .i64 0] 302 HROW.out HI.out HZ.out H1.out ?_)
      refine (zec _ ((za7 rs).take 0) _ HTL.out HTR.out HRD.out).mono ?_;rintro e w5 ⟨v',rfl,own5,hnn,b5⟩;have HF:=FIN.out w5 v' own5 b5;clear own5 b5
      go_wp2_with fail
      go_ret;exact ⟨v',rfl,HF.out.1,hnn,HF.out.2⟩
    · obtain ⟨n,rfl⟩:=Int.eq_ofNat_of_zero_le (show 0<=size by omega)
      by_cases hb : 16 < n
      · obtain rfl : s=16:=by have:=HSS.out;omega
        have hmm : min (max (n : Int) 0) 16=16:=by omega
        have hmm2 : min (n : Int) 16=16:=by omega
        have hbi : (16 : Int) < (n : Int):=by omega
        go_wp2_with (with_reducible refine zbt rfl _ _ 302 rfl w3.heap.size rfl c rfl #[.int .i64 0,.int .i64 0,.int .i64 0,.int .i64 0,.int .i64 0,.int .i64 0,.int .i64 0,.int .i64 0,.int .i64 0,.int .i64 0,.int .i64 0,.int .i64 0,.int .i64 0,.int .i64 0,.int .i64 0,.int .i64 0] 302 HROW.out HI.out HZ.out H1.out ?_)
        refine (zec _ ((za7 rs).take 16) _ HTL.out HTR.out HRD.out).mono ?_;rintro e w5 ⟨v',rfl,own5,hnn,b5⟩;have HF:=FIN.out w5 v' own5 b5;clear own5 b5
        go_wp2_with fail
        go_ret;exact ⟨v',rfl,HF.out.1,hnn,HF.out.2⟩
      · obtain rfl : s=n:=by have:=HSS.out;omega
        have hmm : min (max (s : Int) 0) 16=(s : Int):=by omega
        have hmm2 : min (s : Int) 16=(s : Int):=by omega
        have hbi : (s : Int)<=16:=by omega
        go_wp2_with (with_reducible refine zbt rfl _ _ 302 rfl w3.heap.size rfl c rfl #[.int .i64 0,.int .i64 0,.int .i64 0,.int .i64 0,.int .i64 0,.int .i64 0,.int .i64 0,.int .i64 0,.int .i64 0,.int .i64 0,.int .i64 0,.int .i64 0,.int .i64 0,.int .i64 0,.int .i64 0,.int .i64 0] 302 HROW.out HI.out HZ.out H1.out ?_)
        refine (zec _ ((za7 rs).take s) _ HTL.out HTR.out HRD.out).mono ?_;rintro e w5 ⟨v',rfl,own5,hnn,b5⟩;have HF:=FIN.out w5 v' own5 b5;clear own5 b5
        go_wp2_with fail
        go_ret;exact ⟨v',rfl,HF.out.1,hnn,HF.out.2⟩
theorem zcv (v : Value) (rs : List (Int × Int × Int)) (w : World) (hfit : zb9 rs) (r : ReadsR 3 zak w.heap.size w v rs) :
    Calls Tryz.prog 265 #[v] w fun e w'=>∃ v' : Value,e = .returned v'/\w'.ownsRow w.heap.size 2 1 v' (pagesOf rs).length ((pagesOf rs).map (Value.int .i64))/\v' ≠ .slice none 0 0/\Below w.heap.size w w':=by
  obtain ⟨i0,hi,hz0,hz1,hz2⟩:=info_parts Tryz.infoI64;have own0 : (w.alloc (.cells #[] 2)).ownsRow w.heap.size 2 1 (.slice (some ⟨w.heap.size,0,none⟩) 0 0) 0 []:=World.ownsRow_lit w #[] 0 (Nat.le_refl _) (Nat.zero_le _) rfl;have d0 : Below w.heap.size w (w.alloc (.cells #[] 2)):=za3 (Below.refl _ _);have r0:=(r.below d0).mono d0.size;clear r
  go_enter Tryz.func265,Tryz.ntmps265
  go_wp2_with fail
  generalize w.alloc (.cells #[] 2)=W0 at *;refine (zdf v rs _ hfit r0).mono ?_;rintro e w1 ⟨rfl,b1⟩;have r1:=(r0.below b1).mono b1.size;have own1:=za9 own0 b1;have d1:=za1 d0 b1;clear own0 d0 r0 b1;cases hok : mapOk rs
  · have HV : Hid (pagesOf rs = []):=by rw [Hid,pagesOf,if_neg (by rw [hok];simp)]
    have HO : Hid (w1.ownsRow w.heap.size 2 1 (.slice (some ⟨w.heap.size,0,none⟩) 0 0) 0 []):=own1;clear r1 own1
    go_wp2_with fail
    go_ret;exact ⟨.slice (some ⟨w.heap.size,0,none⟩) 0 0,rfl,by rw [HV.out];exact HO.out,by simp,d1⟩
  · have HV : Hid (pagesOf rs=(za7 rs).filter (fun p=>decide (0<=p))):=by rw [Hid,pagesOf,if_pos hok]
    have HOK : Hid _:=hok;have HPM : Hid (∀ j,j < 16->-1<=(za7 rs).getD j 0):=fun j hj=>(zbg rs hok j hj).1
    clear hok
    go_wp2_with fail
    refine (zdj v rs _ HOK.out r1).mono ?_;rintro e w3 ⟨c,rfl,hcl,b3⟩;have own3:=za9 own1 b3;have d3:=za1 d1 b3;have hpl:=zac rs;have HIX : Hid (∀ j : Nat,j < 16->∀ w : World,(Instr.index 302 (.agg c) (.int .i64 (j : Int))).run Tryz.prog w = .ok (.int .i64 ((za7 rs).getD j 0)) w):=fun j hj w=>zsm c j _ hj (zrz (za7 rs) c hcl j (by omega)) w
    obtain ⟨L,hL⟩ : ∃ L,za7 rs=L:=⟨_,rfl⟩
    rw [hL] at HIX hpl HPM HV;have HPL : Hid (L.length=16):=hpl;clear hL own1 d1 b3 hcl hpl r1
    go_wp2_with fail
    go_loopw [3,13] (fun q i wr=>∃ (k b cq : Nat) (xs : List Int),k<=16/\i = .int .i64 k/\xs=(L.take k).filter (fun p=>decide (0<=p))/\q = .slice (some ⟨b,0,none⟩) xs.length cq/\wr.ownsRow w.heap.size 2 1 (.slice (some ⟨b,0,none⟩) xs.length cq) xs.length (xs.map (Value.int .i64))/\Below w.heap.size w wr) (fun _ i _=>16 - (intOf i).toNat)
    case atStart=>exact ⟨0,w.heap.size,0,[],Nat.zero_le _,rfl,by simp,rfl,own3,d3⟩
    case round =>
      clear own3 d3;obtain ⟨k,b,cq,xs,hk,rfl,hxs,rfl,own,hb⟩:=hrel;by_cases hlt : k < 16
      · have hix:=HIX.out k hlt
        have hpm:=HPM.out k hlt
        have hxl : xs.length<=16:=by
          rw [hxs];have h1 : ((L.take k).filter (fun p=>decide (0<=p))).length<=(L.take k).length:=List.length_filter_le _ _;rw [List.length_take] at h1
          omega
        have hft:=zjn L k (by have:=HPL.out;omega);rw [<- hxs] at hft;have hgd : L.getD k 0=L[k]'(by have:=HPL.out;omega):=by rw [List.getD_eq_getElem?_getD,List.getElem?_eq_getElem (by have:=HPL.out;omega)];rfl
        rw [<- hgd] at hft;have HFT : Hid _:=hft;clear hft hgd hxs;generalize L.getD k 0=z at hix HFT hpm;have h0 : (0 : Int)<=(k : Int):=by omega
        have h1 : (k : Int) < 16:=by omega
        by_cases hz : 0<=z
        · have HN : Hid (xs ++ [z]=(L.take (k+1)).filter (fun p=>decide (0<=p))):=by rw [Hid,HFT.out,if_pos hz]
          have hzb : (z != -1)=true:=by rw [bne_iff_ne];omega
          go_wp2_with (at_builtin;refine wpList_append_own _ rfl _ _ 25 rfl w.heap.size 2 i0 (.int .i64 0) 1 8 Tryz.underlying25 hi hz0 hz1 hz2 rfl (by decide) _ _ _ rfl (own.alloc _) ⟨wr.heap.size,0,none⟩ 1 1 [.int .i64 z] rfl rfl ?c1 ?c2 ?c3 ?c4 ?c5 ?_)
          case c1=>exact zkj _ _ _
          case c2=>intro u hu;simp at hu;subst hu;rfl
          case c3=>unfold maxLen;omega
          case c4=>omega
          case c5=>have:=hb.size;simp;omega
          intro v' w4 hown' hgrow hnil;have own4 : w4.ownsRow w.heap.size 2 1 v' (xs ++ [z]).length ((xs ++ [z]).map (Value.int .i64)):=by simpa using hown'
          obtain ⟨b',cq',hv'⟩ : ∃ b' cq',v' = .slice (some ⟨b',0,none⟩) (xs ++ [z]).length cq':=by
            rcases own4.2 with ⟨e,_⟩ | ⟨b',cq',_,e,_⟩
            · exact absurd e hnil
            · exact ⟨b',cq',e⟩
          have hb4 : Below w.heap.size w w4:=(za3 hb).grown hgrow (by have:=hb.size;simp;omega) (fun q hq=>(own.lt q (by simpa [Value.ownBlock] using hq)).1);subst hv';have HO : Hid _:=And.intro own4 hb4;clear hown' hgrow hnil own4 hb4 own
          go_wp2_with fail
          go_roundw
          case rel=>exact ⟨k+1,b',cq',xs ++ [z],by omega,by go_num,HN.out,by simp,HO.out.1,HO.out.2⟩
          case measure=>simp [intOf];omega
        · obtain rfl : z = -1:=by omega
          have HN : Hid (xs=(L.take (k+1)).filter (fun p=>decide (0<=p))):=by rw [Hid,HFT.out,if_neg hz,List.append_nil]
          clear hz
          go_wp2_with fail
          go_roundw
          case rel=>exact ⟨k+1,b,cq,xs,by omega,by go_num,HN.out,rfl,own,hb⟩
          case measure=>simp [intOf];omega
      · obtain rfl : k=16:=by omega
        have hfin : L.take 16=L:=List.take_of_length_le (by rw [HPL.out];exact Nat.le_refl _);rw [hfin] at hxs;have HXL : Hid (xs=L.filter (fun p=>decide (0<=p))):=hxs;clear hxs hfin
        go_wp2_with fail
        go_ret;rw [HV.out,<- HXL.out];exact ⟨_,rfl,own,by simp,hb⟩
theorem zwg {W : World} {c : Nat} {x0 x1 x2 x3 x4 : Value} {T : TypeId} (k : W.heap[c]? = some (.cells #[x0,x1,x2,x3,x4] T (0,0))) (y0 y3 y4 : Value) :
    (((W.setCell ⟨c,0,none⟩ y0).setCell ⟨c,3,none⟩ y3).setCell ⟨c,4,none⟩ y4).heap[c]? = some (.cells #[y0,x1,x2,y3,y4] T (0,0))/\Upto c W (((W.setCell ⟨c,0,none⟩ y0).setCell ⟨c,3,none⟩ y3).setCell ⟨c,4,none⟩ y4) :=
  ⟨zab (zab (zab k 0 y0) 3 y3) 4 y4,(((Upto.refl _ _).setCell ⟨c,0,none⟩ (.inl rfl) _).setCell ⟨c,3,none⟩ (.inl rfl) _).setCell ⟨c,4,none⟩ (.inl rfl) _⟩
theorem zh5 (base i : Nat) (v1 v2 vb : Value) (cs ps : List Int) (bks : List Bk) (k : Int) (nm ot : ByteArray) (at_ va ep : Int) (w : World) (hbase : base<=w.heap.size) (hi : i < bks.length) (hl : bks.length<=5) (hs : (bks.map Bk.nm).Pairwise (fun x y=>ltB x y=true)) (hnew : ∀ x ∈ bks,x.nm ≠ ot) (hot : ot.size<=1099511627776) (hn : bks[i].nm.size<=1099511627776) (hr : bks[i].rs.length<=1048576) (hfit : zb9 bks[i].rs) (own : OwnS base w v1 v2 vb cs ps bks) :
    Calls Tryz.prog 237 #[.agg #[v1,v2,vb],.int .i64 i,.agg #[.int .i64 k,.string nm,.string ot,.int .i64 at_,.int .i64 va,.int .i64 ep]] w fun e w'=>∃ u1 u2 ub m : Value,e = .returned (.agg #[u1,u2,ub])/\OwnS base w' u1 u2 ub (zax (cs,ps) (pagesOf bks[i].rs)).1 (zax (cs,ps) (pagesOf bks[i].rs)).2 (zda bks ⟨ot,bks[i].sz,m,bks[i].rs,k == 4,0⟩)/\Below w.heap.size w w':=by
  obtain ⟨o1,k1,o2,k2,ob,kb,rfl,rfl,rfl⟩:=own.forms;obtain ⟨g,cap,hvb⟩:=own.b.at i hi;cases hvb;obtain ⟨W0,hW0,kA,kO,kR,d0,z0⟩:=zg0 w #[.slice o1 cs.length k1,.slice o2 ps.length k2,.slice (some ⟨g,0,none⟩) bks.length kb] #[.int .i64 k,.string nm,.string ot,.int .i64 at_,.int .i64 va,.int .i64 ep] #[.slice none 0 0,.slice none 0 0,.slice none 0 0] 30 37 30;have own0:=own.below d0;have hmi:=own0.b.maps _ (List.getElem_mem hi);obtain ⟨⟨a0,a1,a2,a3,a4⟩,-⟩:=zaz own0.b.row i hi
  obtain ⟨x,hx⟩ : ∃ x,bks[i]=x:=⟨_,rfl⟩
  rw [hx] at hmi hfit hn hr a0 a1 a2 a3 a4 ⊢;clear hx;obtain ⟨xn,xs,xm,xr,xf,xe⟩:=x;simp only at hmi hfit hn hr a0 a1 a2 a3 a4 ⊢;obtain ⟨om,cm,hxm⟩:=za4 hmi;subst hxm;have rm : ReadsR 3 zak W0.heap.size W0 (.slice om xr.length cm) xr:=ReadsR.of_own zat hmi;have pA:=za0 kA 2;have HW0 : Hid (W0 = _):=hW0;have i0 : (0 : Int)<=(i : Int):=by omega
  have i1 : (i : Int) < (bks.length : Int):=by omega
  rw [hW0] at pA a0 a1 a2 a3 a4;have zr : w.heap.size+1+1 < W0.heap.size:=by omega
  clear hW0 z0 own hmi
  obtain ⟨F,hF⟩ : ∃ F,(k == 4)=F:=⟨_,rfl⟩
  rw [hF];have hsh : ∀ (v1 v2 vl : Value) (w : World) (hbase : base<=w.heap.size) (own : OwnP base w v1 v2 cs ps) (r : Reads w.heap.size w vl ((pagesOf xr).map (Value.int .i64))),_:=fun v1 v2 vl w hbase own r=>zmv base v1 v2 vl cs ps (pagesOf xr) w hbase own r
  obtain ⟨S,hS⟩ : ∃ S,zax (cs,ps) (pagesOf xr)=S:=⟨_,rfl⟩
  simp only [hS] at hsh ⊢;clear hS;obtain ⟨C1,C2⟩:=S;simp only at hsh ⊢;have HSR : Hid _:=hs;have HNW : Hid _:=hnew;have HFX : Hid (zb9 xr):=hfit;clear hs hnew hfit
  go_enter Tryz.func237,Tryz.ntmps237
  go_wp2_with fail
  rw [<- HW0.out];clear HW0 pA a0 a1 a2 a3 a4;refine (zip xn xs _ xr xf xe _ hn hr rm).mono ?_;rintro e w1 ⟨m,rfl,om1,b1⟩;have hap:=own0.apart_new om1;obtain ⟨mo,mc,hm⟩:=za4 om1;subst hm;obtain ⟨W1,hW1,kB,d1,z1⟩:=zb4 w1 #[.string xn,.int .i64 xs,.slice mo xr.length mc,.bool xf,.int .i64 xe] 117;have HW1 : Hid (W1 = _):=hW1;have sz1:=b1.size;have kA1:=(d1.block _ (za2 (kb0 b1 kA))).trans (kb0 b1 kA);have kO1:=(d1.block _ (za2 (kb0 b1 kO))).trans (kb0 b1 kO);have kR1:=(d1.block _ (za2 (kb0 b1 kR))).trans (kb0 b1 kR);have own1:=(own0.below b1).below d1;have hg1 : g < W0.heap.size:=(own0.b.row.lt g rfl).2;have hm1:=za9 om1 d1;have dW:=za1 (za1 d0 b1) d1;have zb : w1.heap.size < W1.heap.size:=by omega
  clear hW1 z1 own0 om1 b1 d1 kA kO kR d0 rm
  go_upto_region 2 with fail
  rw [<- HW1.out];clear HW1;have n1 : ¬ w1.heap.size=w.heap.size+1:=by omega
  have n2 : ¬ w.heap.size+1=w1.heap.size:=by omega
  go_cut [] (fun wx=>wx.heap[w1.heap.size]? = some (.cells #[.string ot,.int .i64 xs,.slice mo xr.length mc,.bool F,.int .i64 0] 117 (0,0))/\wx.heap[w.heap.size]? = some (.cells #[.slice o1 cs.length k1,.slice o2 ps.length k2,.slice (some ⟨g,0,none⟩) bks.length kb] 30 (0,0))/\wx.heap[w.heap.size+1+1]? = some (.cells #[.slice none 0 0,.slice none 0 0,.slice none 0 0] 30 (0,0))/\OwnS base wx (.slice o1 cs.length k1) (.slice o2 ps.length k2) (.slice (some ⟨g,0,none⟩) bks.length kb) cs ps bks/\wx.ownsRow W0.heap.size 172 3 (.slice mo xr.length mc) xr.length (xr.flatMap zak)/\Below w.heap.size w wx/\W1.heap.size<=wx.heap.size)
  case first =>
    have O2 : W1.drew.cell? ⟨w.heap.size+1,2,none⟩=some (.string ot):=za0 kO1 2;have O0 : W1.drew.cell? ⟨w.heap.size+1,0,none⟩=some (.int .i64 k):=za0 kO1 0
    go_region_law (go_simp;go_at_call 193;refine (zfv ot _ hot).mono ?_;rintro e w5 ⟨rfl,b5⟩;have kO5:=kb0 b5 kO1;have kB5:=kb0 b5 kB;have P0:=za0 kO5 0;have q0:=za0 kB5 0;have q3:=za0 kB5 3;have q4:=za0 kB5 4;have f0:=za8 kB5 0;have f3:=za8 kB5 3;have f4:=za8 kB5 4;dsimp only)
    all_goals
      have hp:=zwg kB5 (.string ot) (.bool F) (.int .i64 0);have kA5:=kb0 b5 kA1;have kR5:=kb0 b5 kR1;have sz5 : W1.heap.size<=w5.heap.size:=b5.size;have hm5:=za9 (za9 hm1 ((Below.refl _ W1).drew)) b5;have own5:=(own1.below ((Below.refl _ W1).drew)).below b5;have HR : Hid _:=And.intro hp.1 (And.intro ((hp.2.block _ (za2 kA5) (by omega)).trans kA5) (And.intro ((hp.2.block _ (za2 kR5) (by omega)).trans kR5) (And.intro (own5.away kB5 hp.2 (fun q hq=>by cases hq;show g ≠ w1.heap.size;omega)) (And.intro (zai hm5 (fun q hq hqv=>hp.2.block q hq (fun hx=>zaa hm5 kB5 (by decide) (by rw [<- hx];exact hqv)))) (And.intro ((za1 (zar dW) b5).trans (hp.2.toBelow (by omega) (by omega))) (Nat.le_trans sz5 hp.2.size))))));clear hp kA5 kR5 hm5 own5 kO5 kB5 b5 hm1 own1 dW kA1 kO1 kR1 kB O0 O2
      go_wp2_with fail
      go_meet
      exact HR.out
  case rest =>
    rename World=>W2
    obtain ⟨kB6,kA6,kR6,own6,hm6,d6,sz6⟩:=hcut;clear hm1 own1 dW kA1 kO1 kR1 kB
    go_wp2_with fail
    go_cut [] (fun wx=>∃ y1 d1 y2 d2,wx.heap[w1.heap.size]? = some (.cells #[.string ot,.int .i64 xs,.slice mo xr.length mc,.bool F,.int .i64 0] 117 (0,0))/\wx.heap[w.heap.size]? = some (.cells #[.slice y1 C1.length d1,.slice y2 C2.length d2,.slice (some ⟨g,0,none⟩) bks.length kb] 30 (0,0))/\wx.heap[w.heap.size+1+1]? = some (.cells #[.slice none 0 0,.slice none 0 0,.slice none 0 0] 30 (0,0))/\OwnS base wx (.slice y1 C1.length d1) (.slice y2 C2.length d2) (.slice (some ⟨g,0,none⟩) bks.length kb) C1 C2 bks/\wx.ownsRow W0.heap.size 172 3 (.slice mo xr.length mc) xr.length (xr.flatMap zak)/\Below w.heap.size w wx)
    case first =>
      have rm6 : ReadsR 3 zak W2.drew.heap.size W2.drew (.slice mo xr.length mc) xr:=ReadsR.of_own zat (za9 hm6 ((Below.refl _ _).drew));have ownd:=own6.below ((Below.refl _ W2).drew);have A0 : W2.drew.cell? ⟨w.heap.size,0,none⟩=some (.slice o1 cs.length k1):=za0 kA6 0;have A1 : W2.drew.cell? ⟨w.heap.size,1,none⟩=some (.slice o2 ps.length k2):=za0 kA6 1;have B2 : W2.drew.cell? ⟨w1.heap.size,2,none⟩=some (.slice mo xr.length mc):=za0 kB6 2;have hb6 : base<=W2.drew.heap.size:=by show base<=W2.heap.size;omega
      have szd : W2.drew.heap.size<=W2.heap.size:=Nat.le_refl _
      go_region_law (first
        | (go_simp;go_at_call 265;refine (zcv _ xr _ HFX.out rm6).mono ?_;rintro e w7 ⟨vp,rfl,op7,-,b7⟩;obtain ⟨po,pc,hpv⟩:=za4 op7;subst hpv;have kA7:=kb0 b7 kA6;have own7:=ownd.below b7;have hb7:=Nat.le_trans hb6 b7.size;have E0:=za0 kA7 0;have E1:=za0 kA7 1;dsimp only)
        | (go_simp;go_at_call 264;refine (hsh _ _ _ _ hb7 own7.p (Reads.of_own op7)).mono ?_;rintro e w8 ⟨u1,u2,rfl,ow8,b8⟩;obtain ⟨y1,d1,y2,d2,e1,e2⟩:=ow8.forms;subst e1 e2;have kA8:=kb0 b8 kA7;have q0:=za0 kA8 0;have q1:=za0 kA8 1;have f0:=za8 kA8 0;have f1:=za8 kA8 1;dsimp only))
      all_goals
        have hq:=zir kA8 (.slice y1 C1.length d1) (.slice y2 C2.length d2);have b78:=za1 (za1 (zar (Below.refl _ W2)) b7) b8
        have own8 : OwnS base w8 (.slice y1 C1.length d1) (.slice y2 C2.length d2) (.slice (some ⟨g,0,none⟩) bks.length kb) C1 C2 bks:=⟨ow8,(own6.below b78).b,own6.a⟩
        have hm8:=za9 hm6 b78;have kR8:=kb0 b78 kR6;have kB8:=kb0 b78 kB6;have sz78:=b78.size;have HR : Hid _:=And.intro ((hq.2.block _ (za2 kB8) (by omega)).trans kB8) (And.intro hq.1 (And.intro ((hq.2.block _ (za2 kR8) (by omega)).trans kR8) (And.intro (own8.answer kA8 hq.2) (And.intro (zai hm8 (fun q hq' hqv=>hq.2.block q hq' (fun hx=>zaa hm8 kA8 (by decide) (by rw [<- hx];exact hqv)))) ((za1 d6 b78).trans (hq.2.toBelow (by omega) (Nat.le_refl _)))))));clear hq b78 own8 hm8 kR8 kB8 kA8 kA7 E0 E1 A0 A1 B2 ow8 b7 b8 op7 own7 own6 ownd hm6 kA6 kR6 kB6 d6 rm6
        go_wp2_with fail
        go_meet
        exact ⟨_,_,_,_,HR.out⟩
    case rest =>
      rename World=>W3
      obtain ⟨y1,d1,y2,d2,kB9,kA9,kR9,own9,hm9,d9⟩:=hcut;have sz9:=d9.size;have hb9 : base<=W3.heap.size:=by omega
      have hmb:=zah hm9 (show base<=W0.heap.size by omega);clear kB6 kA6 kR6 own6 hm6 d6 hsh hm9;obtain ⟨S0,S1,S2⟩:=cq3 kA9;obtain ⟨T0,T1,T2,T3,T4⟩:=cq5 kB9
      go_wp2_with fail
      refine (ziq base _ _ _ C1 C2 bks ⟨ot,xs,.slice mo xr.length mc,xr,F,0⟩ _ hb9 hl HSR.out HNW.out own9 hmb hap).mono ?_;rintro e wz ⟨ub,rfl,ow,bz⟩;obtain ⟨_,_,_,_,o6,c6,-,-,hub⟩:=ow.forms
      obtain ⟨N,hN⟩ : ∃ N,(zda bks ⟨ot,xs,.slice mo xr.length mc,xr,F,0⟩).length=N:=⟨_,rfl⟩
      rw [hN] at hub;clear hN;subst hub;have kRz:=kb0 bz kR9;have HS : Hid _:=zaq (w:=w) kRz (by omega) (za1 d9 bz) (.slice y1 C1.length d1) (.slice y2 C2.length d2) (.slice o6 N c6);have HF : Hid _:=OwnS.answer ow kRz HS.out.2.1;obtain ⟨r0,r1,r2⟩:=cq3 kRz;obtain ⟨e0,e1,e2⟩:=oq3 kRz;clear ow bz kRz own9 hmb kA9 kB9 kR9 d9 S0 S1 S2 T0 T1 T2 T3 T4 hap
      go_wp2_with fail
      exact bodyPost_ret (v:=.agg #[.slice y1 C1.length d1,.slice y2 C2.length d2,.slice o6 N c6]) (by simp [results,Tryz.results237,go_sem,za0 HS.out.1]) rfl ⟨_,_,_,_,rfl,⟨HF.out.1,HF.out.2,HF.out.3⟩,HS.out.2.2⟩
end Go.Proofs.YtfkkapdofjhgpaaGreatDoor
