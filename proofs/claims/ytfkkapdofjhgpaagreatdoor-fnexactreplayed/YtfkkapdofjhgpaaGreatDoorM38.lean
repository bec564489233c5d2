import Derived.Test.YtfkkapdofjhgpaaGreatDoorM17
import Derived.Test.YtfkkapdofjhgpaaGreatDoorM37
set_option maxHeartbeats 12800000
namespace Go.Proofs.YtfkkapdofjhgpaaGreatDoor
open Go.RowKit
set_option linter.unusedVariables false
set_option maxRecDepth 100000
theorem zun {c : Int} (h1 : 1<=c) (h9 : c<=9) : zhk c ∈ zek:=by
  have h : c=1\/c=2\/c=3\/c=4\/c=5\/c=6\/c=7\/c=8\/c=9:=by omega
  rcases h with rfl | rfl | rfl | rfl | rfl | rfl | rfl | rfl | rfl <;> decide
theorem zmy (bs : List Pb) (o : Oq) : 0<=za5 bs o/\za5 bs o<=8:=by
  unfold za5
  repeat (first | omega | (split <;> try omega))
theorem zs6 (s : Sf) (o : Oq) : 0<=(doOp s o).2.1/\(doOp s o).2.1<=9:=by
  have hr:=zmy s.bs o;unfold doOp
  split
  · show (0 : Int)<=1/\(1 : Int)<=9
    omega
  split
  · show 0<=za5 s.bs o/\za5 s.bs o<=9
    omega
  split
  · show (0 : Int)<=0/\(0 : Int)<=9
    omega
  split
  · show (0 : Int)<=0/\(0 : Int)<=9
    omega
  split
  · show (0 : Int)<=0/\(0 : Int)<=9
    omega
  · rcases zt2 s o (findP s.bs o.nm).toNat (zau s.bs (findP s.bs o.nm)) (if o.at_ < 16 then (za7 (zau s.bs (findP s.bs o.nm)).rs).getD o.at_.toNat 0 else -1) with h | h <;> omega
theorem zqi (v1 v2 vb : Value) (cs ps : List Int) (bks : List Bk) (k : Int) (nm ot : ByteArray) (at_ va ep : Int) (w : World) (ad : Nat->Addr) (hv : VarsS w ad) (hnb : ∀ b ∈ bks,b.nm.size<=maxLen) (hf : ∀ b ∈ bks,zb9 b.rs) (hn : nm.size<=maxLen) (hot : ot.size<=maxLen) (fk : I64 k) (fa : I64 at_) (fv : I64 va) (fe : I64 ep) (r : RS w.heap.size w v1 v2 vb cs ps bks) :
    Calls Tryz.prog 171 #[.agg #[v1,v2,vb],.agg #[.int .i64 k,.string nm,.string ot,.int .i64 at_,.int .i64 va,.int .i64 ep]] w fun e w'=>∃ (u1 u2 ub : Value) (ms : List Bk),e = .returned (.tuple #[.agg #[u1,u2,ub],.agg #[.int .i64 (zgg ⟨cs,ps,bks.map Bk.pb⟩ ⟨k,nm,ot,at_,va,ep⟩).2.1,.int .i64 (zgg ⟨cs,ps,bks.map Bk.pb⟩ ⟨k,nm,ot,at_,va,ep⟩).2.2]])/\OwnS w.heap.size w' u1 u2 ub (zgg ⟨cs,ps,bks.map Bk.pb⟩ ⟨k,nm,ot,at_,va,ep⟩).1.cs (zgg ⟨cs,ps,bks.map Bk.pb⟩ ⟨k,nm,ot,at_,va,ep⟩).1.ps ms/\ms.map Bk.pb=(zgg ⟨cs,ps,bks.map Bk.pb⟩ ⟨k,nm,ot,at_,va,ep⟩).1.bs/\Below w.heap.size w w':=by
  obtain ⟨o1,k1,o2,k2,ob,kb,rfl,rfl,rfl⟩:=r.forms;obtain ⟨Wa,hWa,ka,kO,da,za⟩:=zc7 w #[.slice o1 cs.length k1,.slice o2 ps.length k2,.slice ob bks.length kb] #[.int .i64 k,.string nm,.string ot,.int .i64 at_,.int .i64 va,.int .i64 ep] 30 37;obtain ⟨W0,hW0,kc,kd,d0,z0⟩:=zc7 Wa #[.slice none 0 0,.slice none 0 0,.slice none 0 0] #[.int .i64 0,.int .i64 0] 30 43;rw [za] at kc kd;rw [hWa] at hW0;have HW0 : Hid (W0 = _):=hW0;replace ka:=kb0 d0 ka;replace kO:=kb0 d0 kO;replace d0:=za1 da d0;have r0:=(r.below d0).mono d0.size;have hv0:=hv.below d0;have zr : w.heap.size+1+1+1 < W0.heap.size:=by omega
  have HNB : Hid _:=hnb;have HFF : Hid _:=hf;clear hW0 hWa za z0 da r hv hnb hf;have n1 : ¬ w.heap.size+1+1=w.heap.size+1+1+1:=by omega
  have n2 : ¬ w.heap.size+1+1+1=w.heap.size+1+1:=by omega
  obtain ⟨p0,p1,p2⟩:=cq3 ka;obtain ⟨q0,q1,q2,q3,q4,q5⟩:=cq6 kO
  obtain ⟨X,hX⟩ : ∃ X,zgg ⟨cs,ps,bks.map Bk.pb⟩ ⟨k,nm,ot,at_,va,ep⟩=X:=⟨_,rfl⟩
  have HX : Hid (zgg ⟨cs,ps,bks.map Bk.pb⟩ ⟨k,nm,ot,at_,va,ep⟩=X):=hX;rw [hX];clear hX
  go_enter Tryz.func171,Tryz.ntmps171
  go_wp2_with fail
  rw [<- HW0.out];clear HW0 p0 p1 p2 q0 q1 q2 q3 q4 q5;refine (zum _ _ _ cs ps bks k nm ot at_ va ep _ ad hv0 HNB.out HFF.out hn hot fk fa fv fe r0).mono ?_;rintro e w1 ⟨⟨a1,m1,c1,a2,m2,c2,a3,m3,c3,told,err,rfl,hp⟩,b1⟩;obtain ⟨W1,hW1,kN,d1,z1⟩:=zb4 w1 #[.slice a1 m1 c1,.slice a2 m2 c2,.slice a3 m3 c3] 30;have HW1 : Hid (W1 = _):=hW1;have b01:=za1 b1 d1;replace ka:=kb0 b01 ka;replace kc:=kb0 b01 kc;replace kd:=kb0 b01 kd;have r1:=(r0.below b01).mono b01.size;have hv1:=hv0.below b01;have dd:=za1 d0 b01;have s1:=b1.size;have s01:=b01.size;have HP : Hid (zwj ad W0.heap.size ⟨cs,ps,bks.map Bk.pb⟩ ⟨k,nm,ot,at_,va,ep⟩ (.slice a1 m1 c1) (.slice a2 m2 c2) (.slice a3 m3 c3) told err w1):=hp;clear hW1 z1 hp b01 r0 hv0 d0 kO
  rcases HP.out with ⟨hsb,herr⟩ | ⟨hsb,hne,herr⟩ | ⟨hsb,h0,htold,herr,ms,ow,hm⟩
  · -- the shelf is wrong
    have HXV : Hid (X=(⟨[],[],[]⟩,(1,0))):=HX.out.symm.trans (zvm hsb);subst herr;have HWS : Hid _:=hv1.ws;have gws:=hv1.ws;unfold zh6
    go_upto_region 4 with fail
    rw [<- HW1.out];clear HW1
    go_wp2_with fail
    clear gws;refine (zop 1 (ad 1) _).mono ?_;rintro e w2 ⟨rfl,b2⟩;have kc2:=kb0 b2 kc;have kd2:=kb0 b2 kd;have hv2:=hv1.below b2;have d2:=za1 dd b2;clear b2 kc kd ka hv1 dd kN r1
    go_wp2_with fail
    refine (zky 1 1 _ ad hv2.v).mono ?_;rintro e w3 ⟨rfl,b3⟩;have kc3:=kb0 b3 kc2;have kd3:=kb0 b3 kd2;have d3:=za1 d2 b3;have HE : Hid _:=zo3 (w:=w) kc3 kd3 n1 (by omega) d3 (.slice none 0 0) (.slice none 0 0) (.slice none 0 0) (.int .i64 1) (.int .i64 0);obtain ⟨t0,t1,t2⟩:=cq3 kc3;obtain ⟨t3,t4⟩:=cq2 kd3;obtain ⟨f0,f1,f2⟩:=oq3 kc3;obtain ⟨f3,f4⟩:=oq2 kd3;clear b3 kc2 kd2 kc3 kd3 hv2 d2 d3
    go_wp2_with fail
    exact bodyPost_ret (v:=.tuple #[.agg #[.slice none 0 0,.slice none 0 0,.slice none 0 0],.agg #[.int .i64 1,.int .i64 0]]) (by simp [results,Tryz.results171,go_sem,za0 HE.out.1,za0 HE.out.2.1]) rfl ⟨_,_,_,[],by rw [HXV.out],by rw [HXV.out];exact ⟨⟨World.ownsRow_nil _ _ _ _,World.ownsRow_nil _ _ _ _,fun g h=>by cases h⟩,⟨World.ownsRow_nil _ _ _ _,fun b hb=>by cases hb⟩,List.Pairwise.nil⟩,by rw [HXV.out];rfl,HE.out.2.2⟩
  · -- the op is za5
    have inv:=(zgn _).1 hsb;have F:=zcm inv;have hdo:=zr4 ⟨cs,ps,bks.map Bk.pb⟩ ⟨k,nm,ot,at_,va,ep⟩ hne;have hcr:=zs6 ⟨cs,ps,bks.map Bk.pb⟩ ⟨k,nm,ot,at_,va,ep⟩;have hxd:=HX.out.symm.trans (zj7 hsb)
    obtain ⟨C,hC⟩ : ∃ C,(doOp ⟨cs,ps,bks.map Bk.pb⟩ ⟨k,nm,ot,at_,va,ep⟩).2.1=C:=⟨_,rfl⟩
    rw [hC] at hne hcr herr
    have HXV : Hid (X.1=⟨cs,ps,bks.map Bk.pb⟩/\X.2.1=C/\X.2.2=0):=by
      rw [hxd];exact ⟨hdo.1,hC,hdo.2⟩
    have hmem:=zun (c:=C) (by omega) hcr.2;have HREF : Hid (refErr ad C = .iface 218 (.agg #[.int .i64 C,.iface 334 (.pointer (some (ad (zhk C))))])):=by rw [Hid,refErr,if_neg hne]
    rw [HREF.out] at herr;subst herr;have hnv:=hv1.ne (zhk C) hmem;obtain ⟨ca,ta,hba⟩:=hv1.v.blk (zhk C) hmem;obtain ⟨cb,tb,hbb⟩:=hv1.wb;have gws:=hv1.ws;have hc1 : cs.length<=1048576:=by have:=F.c24;omega
    have hp1 : ps.length<=1048576:=by have:=F.c24;have:=F.len;omega
    have hl6:=F.few;have HNL : Hid (∀ b ∈ bks,b.nm.size<=1099511627776):=fun b hb=>by have:=F.nm b hb;omega
    have HRL : Hid (∀ b ∈ bks,b.rs.length<=1048576):=fun b hb=>by have:=F.rs b hb;omega
    clear inv F hdo hxd hC hcr hmem hne
    go_upto_region 4 with fail
    rw [<- HW1.out];clear HW1
    go_wp2_with fail
    clear gws;refine (znu C _ _ ca cb ta tb _ hnv hba hbb).mono ?_;rintro e w2 ⟨rfl,b2⟩;have ka2:=kb0 b2 ka;have kc2:=kb0 b2 kc;have kd2:=kb0 b2 kd;have hv2:=hv1.below b2;have r2:=(r1.below b2).mono b2.size;have d2:=za1 dd b2;have s2:=b2.size;clear b2 kc kd ka hv1 dd kN r1 hba hbb hnv;obtain ⟨p0,p1,p2⟩:=cq3 ka2
    go_wp2_with fail
    clear p0 p1 p2;refine (zhs _ _ _ cs ps bks _ hc1 hp1 hl6 HNL.out HRL.out r2).mono ?_;rintro e w3 ⟨u1,u2,ub,ms,rfl,hms,ow3,b3⟩;obtain ⟨y1,j1,y2,j2,yb,jb,e1,e2,e3⟩:=ow3.forms;subst e1 e2 e3;have HMS3 : Hid (ms.map Bk.pb=bks.map Bk.pb):=hms;have kc3:=kb0 b3 kc2;have kd3:=kb0 b3 kd2;have hv3:=hv2.below b3;have d3:=za1 d2 b3;clear b3 kc2 kd2 ka2 hv2 d2 r2 hms
    go_wp2_with fail
    refine (zky C (zhk C) _ ad hv3.v).mono ?_;rintro e w4 ⟨rfl,b4⟩;have kc4:=kb0 b4 kc3;have kd4:=kb0 b4 kd3;have ow4:=ow3.below b4;have d4:=za1 d3 b4;have HE : Hid _:=zo3 (w:=w) kc4 kd4 n1 (by omega) d4 (.slice y1 cs.length j1) (.slice y2 ps.length j2) (.slice yb ms.length jb) (.int .i64 C) (.int .i64 0)
    have HO : Hid (OwnS w.heap.size (((((w4.setCell ⟨w.heap.size+1+1,0,none⟩ (.slice y1 cs.length j1)).setCell ⟨w.heap.size+1+1,1,none⟩ (.slice y2 ps.length j2)).setCell ⟨w.heap.size+1+1,2,none⟩ (.slice yb ms.length jb)).setCell ⟨w.heap.size+1+1+1,0,none⟩ (.int .i64 C)).setCell ⟨w.heap.size+1+1+1,1,none⟩ (.int .i64 0)) (.slice y1 cs.length j1) (.slice y2 ps.length j2) (.slice yb ms.length jb) cs ps ms):=by
      refine OwnS.mono (OwnS.upto (c:=w.heap.size+1+1+1) (OwnS.upto (c:=w.heap.size+1+1) ow4 ((((Upto.refl _ _).setCell ⟨w.heap.size+1+1,0,none⟩ (.inl rfl) _).setCell ⟨w.heap.size+1+1,1,none⟩ (.inl rfl) _).setCell ⟨w.heap.size+1+1,2,none⟩ (.inl rfl) _) (by omega)) (((Upto.refl _ _).setCell ⟨w.heap.size+1+1+1,0,none⟩ (.inl rfl) _).setCell ⟨w.heap.size+1+1+1,1,none⟩ (.inl rfl) _) (by omega)) (by omega)
    obtain ⟨t0,t1,t2⟩:=cq3 kc4;obtain ⟨t3,t4⟩:=cq2 kd4;obtain ⟨f0,f1,f2⟩:=oq3 kc4;obtain ⟨f3,f4⟩:=oq2 kd4;clear b4 kc3 kd3 kc4 kd4 hv3 d3 d4 ow3 ow4
    go_wp2_with fail
    exact bodyPost_ret (v:=.tuple #[.agg #[.slice y1 cs.length j1,.slice y2 ps.length j2,.slice yb ms.length jb],.agg #[.int .i64 C,.int .i64 0]]) (by simp [results,Tryz.results171,go_sem,za0 HE.out.1,za0 HE.out.2.1]) rfl ⟨_,_,_,ms,by rw [HXV.out.2.1,HXV.out.2.2],by rw [HXV.out.1];exact HO.out,by rw [HXV.out.1];exact HMS3.out,HE.out.2.2⟩
  · -- it is done
    have hxd:=HX.out.symm.trans (zj7 hsb);rw [<- hxd] at h0 htold ow hm
    have HX0 : Hid (X.2.1=0/\X.2.2=told):=⟨h0,htold.symm⟩
    have HM : Hid (ms.map Bk.pb=X.1.bs):=hm;have ow1:=ow.below d1;subst herr;have HE : Hid _:=zo3 (w:=w) kc kd n1 (by omega) dd (.slice a1 m1 c1) (.slice a2 m2 c2) (.slice a3 m3 c3) (.int .i64 0) (.int .i64 told)
    have HO : Hid (OwnS w.heap.size (((((W1.setCell ⟨w.heap.size+1+1,0,none⟩ (.slice a1 m1 c1)).setCell ⟨w.heap.size+1+1,1,none⟩ (.slice a2 m2 c2)).setCell ⟨w.heap.size+1+1,2,none⟩ (.slice a3 m3 c3)).setCell ⟨w.heap.size+1+1+1,0,none⟩ (.int .i64 0)).setCell ⟨w.heap.size+1+1+1,1,none⟩ (.int .i64 told)) (.slice a1 m1 c1) (.slice a2 m2 c2) (.slice a3 m3 c3) X.1.cs X.1.ps ms):=by
      refine OwnS.mono (OwnS.upto (c:=w.heap.size+1+1+1) (OwnS.upto (c:=w.heap.size+1+1) ow1 ((((Upto.refl _ _).setCell ⟨w.heap.size+1+1,0,none⟩ (.inl rfl) _).setCell ⟨w.heap.size+1+1,1,none⟩ (.inl rfl) _).setCell ⟨w.heap.size+1+1,2,none⟩ (.inl rfl) _) (by omega)) (((Upto.refl _ _).setCell ⟨w.heap.size+1+1+1,0,none⟩ (.inl rfl) _).setCell ⟨w.heap.size+1+1+1,1,none⟩ (.inl rfl) _) (by omega)) (by omega)
    have lN:=za2 kN;obtain ⟨t0,t1,t2⟩:=cq3 kc;obtain ⟨t3,t4⟩:=cq2 kd;obtain ⟨f0,f1,f2⟩:=oq3 kc;obtain ⟨f3,f4⟩:=oq2 kd;obtain ⟨g0,g1,g2⟩:=cq3 kN;have m1' : ¬ w.heap.size+1+1=w1.heap.size:=by omega
    have m2' : ¬ w1.heap.size=w.heap.size+1+1:=by omega
    clear h0 htold ow hm hxd ow1 kc kd ka kN dd hv1 r1 d1
    go_upto_region 3 with fail
    rw [<- HW1.out];clear HW1
    go_wp2_with fail
    exact bodyPost_ret (v:=.tuple #[.agg #[.slice a1 m1 c1,.slice a2 m2 c2,.slice a3 m3 c3],.agg #[.int .i64 0,.int .i64 told]]) (by simp [results,Tryz.results171,go_sem,za0 HE.out.1,za0 HE.out.2.1]) rfl ⟨_,_,_,ms,by rw [HX0.out.1,HX0.out.2],HO.out,HM.out,HE.out.2.2⟩
end Go.Proofs.YtfkkapdofjhgpaaGreatDoor
