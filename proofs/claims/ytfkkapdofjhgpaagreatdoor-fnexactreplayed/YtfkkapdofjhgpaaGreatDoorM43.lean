import Derived.BigRegion
import Derived.Test.YtfkkapdofjhgpaaGreatDoorChecked
import Derived.Deep.Slices
import Derived.Deep.Strs
import Derived.Deep.DeepCutAuto
import Derived.Test.YtfkkapdofjhgpaaGreatDoorM03
import Derived.Test.YtfkkapdofjhgpaaGreatDoorM07
import Derived.Test.YtfkkapdofjhgpaaGreatDoorM08
import Derived.Test.YtfkkapdofjhgpaaGreatDoorM17
import Derived.Test.YtfkkapdofjhgpaaGreatDoorM18
import Derived.Test.YtfkkapdofjhgpaaGreatDoorM22
import Derived.Test.YtfkkapdofjhgpaaGreatDoorM41
import Derived.Test.YtfkkapdofjhgpaaGreatDoorM42
set_option maxHeartbeats 12800000
namespace Go.Proofs.YtfkkapdofjhgpaaGreatDoor
open Go.RowKit
set_option linter.unusedVariables false
set_option maxRecDepth 100000
set_option linter.unusedSimpArgs false
def HsQ (base : Nat) (n : Int) (l : List Ent) (h : Hv) (W : World) : Prop :=
  ∃ ms : List Bk,ze3 n l=true/\h.up=true/\h.pg=n/\h.ak=0/\W.ownsRow base 39 9 (.slice h.lg.o h.lg.n h.lg.c) l.length (l.flatMap zbs)/\OwnS base W (.slice h.c.o h.c.n h.c.c) (.slice h.p.o h.p.n h.p.c) (.slice h.b.o h.b.n h.b.c) (rpFrom (rpNew n) l).s.cs (rpFrom (rpNew n) l).s.ps ms/\ms.map Bk.pb=(rpFrom (rpNew n) l).s.bs/\OwnM base W (.slice h.t.o h.t.n h.t.c) (.slice h.r.o h.r.n h.r.c) (rpFrom (rpNew n) l).ts (rpFrom (rpNew n) l).rs/\(∀ g,((Value.slice h.c.o h.c.n h.c.c).ownBlock=some g\/(Value.slice h.p.o h.p.n h.p.c).ownBlock=some g)->(Value.slice h.t.o h.t.n h.t.c).ownBlock ≠ some g)
theorem zn0 (n : Int) (o : Option Addr) (cap : Nat) (l : List Ent) (p q base : Nat) (ad : Nat->Addr) (ab : Addr) (W : World) (kp : W.heap[p]? = some (.cells #[.int .i64 n] 2 (0,0))) (kq : W.heap[q]? = some (.cells #[.slice o l.length cap] 24 (0,0))) (hf : ze0 l) (r : ReadsR 9 zbs W.heap.size W (.slice o l.length cap) l) (hv : VarsS W ad) (hb : VarB W ab) (hbase : base<=W.heap.size) :
    Calls Tryz.prog 80 #[.pointer (some ⟨p,0,none⟩),.pointer (some ⟨q,0,none⟩)] W (zyi (HsQ base n l) (ze3 n l=false) W):=by
  obtain ⟨W0,hW0,kR,d0,z0⟩:=zb4 W #[.bool false,.int .i64 0,.slice none 0 0,.int .i64 0,.slice none 0 0,.slice none 0 0,.slice none 0 0,.slice none 0 0,.slice none 0 0] 35;have HW0 : Hid (W0 = _):=hW0;have pc:=za0 (kb0 d0 kp) 0;have qc:=za0 (kb0 d0 kq) 0;have r0:=(r.below d0).mono d0.size;have hv0:=hv.below d0;have hb0:=hb.below d0;have HBS : Hid (base<=W.heap.size):=hbase;have hlt : W.heap.size < W0.heap.size:=by omega
  clear z0 ;by_cases hok : ze3 n l=true
  case neg =>
    have hok' : ze3 n l=false:=by simpa using hok
    have hn:=zs7 n _ l W0 ab hb0 hf hok' r0;have HOK : Hid (ze3 n l=false):=hok';clear hW0 hv hb hv0 hb0 hok hok' r0
    go_enter Tryz.func80,Tryz.ntmps80
    go_upto_region 1 with fail
    rw [<- HW0.out];clear HW0
    go_wp2_with fail
    refine hn.mono ?_;rintro e w1 ⟨rfl,b1⟩
    go_wp2_with fail
    exact ⟨rfl,za1 d0 b1,.inr ⟨_,_,rfl,HOK.out⟩⟩
  · have hy:=zql n _ l W0 ad hv0 hf hok r0
    have HOKT : Hid (ze3 n l=true):=hok;clear hW0 hv hb hv0 hb0 hok r0
    go_enter Tryz.func80,Tryz.ntmps80
    go_upto_region 1 with fail
    rw [<- HW0.out];clear HW0
    go_wp2_with fail
    refine hy.mono ?_;rintro e w1 ⟨vl,u1,u2,ub,m1,m2,ms,rfl,own,os,hms,om,ap,b1⟩;have kR1:=kb0 b1 kR
    obtain ⟨st,hst⟩ : ∃ st,rpFrom (rpNew n) l=st:=⟨_,rfl⟩
    rw [hst] at os hms om;have HSQ : Hid (rpFrom (rpNew n) l=st):=hst;clear hst hy;obtain ⟨y1,z1,y2,z2,y3,z3,rfl,rfl,rfl⟩:=os.forms;obtain ⟨y4,z4,y5,z5,rfl,rfl⟩:=om.forms;obtain ⟨yl,zl,rfl⟩:=za4 own;have HAPE : Hid _:=ap;clear ap
    obtain ⟨V,hV⟩ : ∃ V : World,V=(((((((((w1.setCell ⟨W.heap.size,0,none⟩ (.bool true)).setCell ⟨W.heap.size,1,none⟩ (.int .i64 n)).setCell ⟨W.heap.size,2,none⟩ (.slice yl l.length zl)).setCell ⟨W.heap.size,3,none⟩ (.int .i64 0)).setCell ⟨W.heap.size,4,none⟩ (.slice y1 st.s.cs.length z1)).setCell ⟨W.heap.size,5,none⟩ (.slice y2 st.s.ps.length z2)).setCell ⟨W.heap.size,6,none⟩ (.slice y3 ms.length z3)).setCell ⟨W.heap.size,7,none⟩ (.slice y4 st.ts.length z4)).setCell ⟨W.heap.size,8,none⟩ (.slice y5 st.rs.length z5)):=⟨_,rfl⟩
    have HV : Hid (V = _):=hV;have HE : Hid _:=zhi kR1 (.bool true) (.int .i64 n) (.slice yl l.length zl) (.int .i64 0) (.slice y1 st.s.cs.length z1) (.slice y2 st.s.ps.length z2) (.slice y3 ms.length z3) (.slice y4 st.ts.length z4) (.slice y5 st.rs.length z5) hV;have uV:=HE.out.2;have dV : Below W.heap.size W V:=(za1 d0 b1).trans (uV.toBelow (za1 d0 b1).size (Nat.le_refl _));have HF : Hid _:=And.intro (zah (zbc own uV hlt) (show base<=W0.heap.size by omega)) (And.intro ((os.upto uV hlt).mono (show base<=W0.heap.size by omega)) (And.intro hms (And.intro ((om.upto uV hlt).mono (show base<=W0.heap.size by omega)) dV)));obtain ⟨p0,p1,p2,p3,p4,p5,p6,p7,p8⟩:=cq9 kR1;obtain ⟨f0,f1,f2,f3,f4,f5,f6,f7,f8⟩:=oq9 kR1;clear hV uV own os om kR1 kR hms dV
    go_wp2_with fail
    rw [<- HV.out];refine bodyPost_ret (v:=.agg #[.bool true,.int .i64 n,.slice yl l.length zl,.int .i64 0,.slice y1 st.s.cs.length z1,.slice y2 st.s.ps.length z2,.slice y3 ms.length z3,.slice y4 st.ts.length z4,.slice y5 st.rs.length z5]) (by simp [results,Tryz.results80,go_sem,za0 HE.out.1]) rfl ?_;refine ⟨HF.out.2.2.2.2,.inl ⟨⟨true,n,⟨yl,l.length,zl⟩,0,⟨y1,st.s.cs.length,z1⟩,⟨y2,st.s.ps.length,z2⟩,⟨y3,ms.length,z3⟩,⟨y4,st.ts.length,z4⟩,⟨y5,st.rs.length,z5⟩⟩,rfl,ms,HOKT.out,rfl,rfl,rfl,?_⟩⟩;rw [HSQ.out];exact ⟨HF.out.1,HF.out.2.1,HF.out.2.2.1,HF.out.2.2.2.1,HAPE.out⟩
theorem zns {W W' : World} {a : Nat} (h : Only (fun k=>k=a\/k=a+1) W W') : Rng a (a+1+1) W W':=⟨h.os,h.tape,h.output,h.size,fun k hk hc=>h.block k hk (by omega)⟩
theorem OwnS.nil (base : Nat) (w : World) : OwnS base w (.slice none 0 0) (.slice none 0 0) (.slice none 0 0) [] [] []:=⟨OwnP.nil _ _,⟨zes _ _ _ _,fun b hb=>by cases hb⟩,List.Pairwise.nil⟩
theorem zs8 {n : Int} {l : List Ent} (h : ze3 n l=false) : zbu n l=(Rp.zero,false):=by rw [zbu,if_neg (by rw [h];decide)]
theorem zqm {n : Int} {l : List Ent} (h : ze3 n l=true) : zbu n l=(rpFrom (rpNew n) l,true):=by rw [zbu,if_pos h]
theorem zqn {w W : World} {a b : Nat} {u1 u2 vb m1 m2 : Value} {x : Rp} {ms : List Bk} (hab : b ≠ a) (ha : w.heap.size<=a) (hb : w.heap.size<=b) (base : Nat) (hba : a < base) (hbb : b < base) (kR : W.heap[a]? = some (.cells #[.slice none 0 0,.slice none 0 0,.slice none 0 0] 30 (0,0))) (kQ : W.heap[b]? = some (.cells #[.slice none 0 0,.slice none 0 0] 33 (0,0)))
    (od : OwnS base W u1 u2 vb x.s.cs x.s.ps ms) (om : OwnM base W m1 m2 x.ts x.rs) (d : Below w.heap.size w W) : ∀ W',(W'=((((W.setCell ⟨a,0,none⟩ u1).setCell ⟨a,1,none⟩ u2).setCell ⟨a,2,none⟩ vb).setCell ⟨b,0,none⟩ m1).setCell ⟨b,1,none⟩ m2) ->
    W'.heap[a]? = some (.cells #[u1,u2,vb] 30 (0,0))/\W'.heap[b]? = some (.cells #[m1,m2] 33 (0,0))/\OwnS base W' u1 u2 vb x.s.cs x.s.ps ms/\OwnM base W' m1 m2 x.ts x.rs/\Below w.heap.size w W':=by
  rintro W' rfl;have a1:=zab (zab (zab kR 0 u1) 1 u2) 2 vb;have ua : Upto a W (((W.setCell ⟨a,0,none⟩ u1).setCell ⟨a,1,none⟩ u2).setCell ⟨a,2,none⟩ vb):=(((Upto.refl _ _).setCell ⟨a,0,none⟩ (.inl rfl) _).setCell ⟨a,1,none⟩ (.inl rfl) _).setCell ⟨a,2,none⟩ (.inl rfl) _;have kq:=(ua.block _ (za2 kQ) hab).trans kQ;obtain ⟨b1,ub⟩:=zcp kq m1 m2;have ha1:=(ub.block _ (za2 a1) (fun e=>hab e.symm)).trans a1;exact ⟨ha1,b1,(od.upto ua hba).upto ub hbb,(om.upto ua hba).upto ub hbb,(d.trans (ua.toBelow d.size ha)).trans (ub.toBelow (by have:=d.size;have:=ua.size;omega) hb)⟩
theorem zfz (n : Int) (v : Value) (l : List Ent) (w : World) (ad : Nat->Addr) (ab : Addr) (hv : VarsS w ad) (hb : VarB w ab) (hf : ze0 l) (r : ReadsR 9 zbs w.heap.size w v l) :
    Calls Tryz.prog 25 #[.int .i64 n,v] w fun e w'=>∃ (u1 u2 ub t1 t2 : Value) (ms : List Bk),e = .returned (.tuple #[.agg #[u1,u2,ub],.agg #[t1,t2],.bool (zbu n l).2])/\OwnS w.heap.size w' u1 u2 ub (zbu n l).1.s.cs (zbu n l).1.s.ps ms/\ms.map Bk.pb=(zbu n l).1.s.bs/\OwnM w.heap.size w' t1 t2 (zbu n l).1.ts (zbu n l).1.rs/\(∀ g,(u1.ownBlock=some g\/u2.ownBlock=some g)->t1.ownBlock ≠ some g)/\Below w.heap.size w w':=by
  obtain ⟨o,cap,rfl⟩:=r.form;obtain ⟨WA,hWA,kp,kq,dA,zA⟩:=zc7 w #[.int .i64 n] #[.slice o l.length cap] 2 24;obtain ⟨WB,hWB,kS,kM,dB,zB⟩:=zc7 WA #[.slice none 0 0,.slice none 0 0,.slice none 0 0] #[.slice none 0 0,.slice none 0 0] 30 33;have HWA : Hid (WA = _):=hWA;have HWB : Hid (WB = _):=hWB;rw [zA] at kS kM;have d0:=za1 dA dB;have lp : w.heap.size < WB.heap.size:=by omega
  have lq : w.heap.size+1 < WB.heap.size:=by omega
  have lm : w.heap.size+1+1+1 < WB.heap.size:=by omega
  have kpB:=kb0 dB kp;have kqB:=kb0 dB kq;have rB:=(r.below d0).mono d0.size;have hvB:=hv.below d0;have hbB:=hb.below d0;have hface:=zwr #[.pointer (some ⟨w.heap.size,0,none⟩),.pointer (some ⟨w.heap.size+1,0,none⟩)] (HsQ (WB.heap.size+1+1) n l) (ze3 n l=false) WB (fun W d hsz=>zn0 n o cap l _ _ _ ad ab W ((d.block _ lp).trans kpB) ((d.block _ lq).trans kqB) hf ((rB.below d).mono d.size) (hvB.below d) (hbB.below d) hsz);clear hWA hWB zA zB hv hb hvB hbB rB r kp kq kpB kqB;have hmf : ∀ (fn : Fn) (first cap : Array Value) (w : World),(Instr.makeFunc fn first cap).run Tryz.prog w = .ok (.func fn first cap) w:=fun _ _ _ _=>rfl
  by_cases hok : ze3 n l=true
  · have HV : Hid _:=zqm hok
    have hfy:=hface.mono (R':=fun e w'=>Below WB.heap.size WB w'/\∃ (h : Hv) (W1 : World),e = .returned (.tuple #[.agg h.cells,.bool true])/\HsQ (WB.heap.size+1+1) n l h W1/\Only (fun k=>k=WB.heap.size\/k=WB.heap.size+1) W1 w') (by
      rintro e w' ⟨b,⟨h,W1,e1,hq,on,-,-⟩ | ⟨-,hg⟩⟩
      · exact ⟨b,h,W1,e1,hq,on⟩
      · rw [hok] at hg;cases hg)
    clear hface hok
    go_enter Tryz.func25,Tryz.ntmps25
    go_upto_region 1 with fail
    rw [<- HWA.out,<- HWB.out];clear HWA HWB
    go_upto_region 2 with (go_at_call 59;refine hfy.mono ?_;rintro e w5 ⟨b5,⟨up,pg,⟨lo,ln,lc⟩,ak,⟨c1,c2,c3⟩,⟨p1,p2,p3⟩,⟨b1,b2,b3⟩,⟨t1,t2,t3⟩,⟨r1,r2,r3⟩⟩,W1,rfl,⟨ms,-,-,-,-,-,os,hms,om,ap⟩,on⟩;dsimp only [Hv.cells] at os om ap ⊢)
    obtain ⟨W6,hW6,kH,d6,z6⟩:=zb4 w5 #[.bool up,.int .i64 pg,.slice lo ln lc,.int .i64 ak,.slice c1 c2 c3,.slice p1 p2 p3,.slice b1 b2 b3,.slice t1 t2 t3,.slice r1 r2 r3] 35;have HW6 : Hid (W6 = _):=hW6;have os6:=(os.rng (zns on) (Nat.le_refl _)).below d6;have om6:=(om.rng (zns on) (Nat.le_refl _)).below d6;have D6:=za1 b5 d6;have kS6:=kb0 D6 kS;have kM6:=kb0 D6 kM;have HE:=zqn (w:=w) (a:=w.heap.size+1+1) (b:=w.heap.size+1+1+1) (by omega) (by omega) (by omega) (WB.heap.size+1+1) (by omega) (by omega) kS6 kM6 os6 om6 (za1 d0 D6) _ rfl
    obtain ⟨W7,hW7⟩ : ∃ W7 : World,W7=((((W6.setCell ⟨w.heap.size+1+1,0,none⟩ (.slice c1 c2 c3)).setCell ⟨w.heap.size+1+1,1,none⟩ (.slice p1 p2 p3)).setCell ⟨w.heap.size+1+1,2,none⟩ (.slice b1 b2 b3)).setCell ⟨w.heap.size+1+1+1,0,none⟩ (.slice t1 t2 t3)).setCell ⟨w.heap.size+1+1+1,1,none⟩ (.slice r1 r2 r3):=⟨_,rfl⟩
    rw [<- hW7] at HE;have HW7 : Hid (W7 = _):=hW7;have HEH : Hid _:=HE;have q4:=za0 kH 4;have q5:=za0 kH 5;have q6:=za0 kH 6;have q7:=za0 kH 7;have q8:=za0 kH 8;obtain ⟨s0,s1,s2⟩:=cq3 kS6;obtain ⟨m0,m1⟩:=cq2 kM6;obtain ⟨f0,f1,f2⟩:=oq3 kS6;obtain ⟨g0,g1⟩:=oq2 kM6;have HMS : Hid _:=hms;have HAPE : Hid _:=ap;clear ap;have hbase : w.heap.size<=WB.heap.size+1+1:=by omega
    clear hW6 hW7 HE kH kS6 kM6 os6 om6 os om on hfy hms kS kM b5 d6 z6 D6;rw [<- HW6.out];clear HW6
    go_region
    rw [<- HW7.out];clear HW7 s0 s1 s2 m0 m1 f0 f1 f2 g0 g1 q4 q5 q6 q7 q8
    go_wp2_with fail
    exact bodyPost_ret (v:=.tuple #[.agg #[.slice c1 c2 c3,.slice p1 p2 p3,.slice b1 b2 b3],.agg #[.slice t1 t2 t3,.slice r1 r2 r3],.bool true]) (by simp [results,Tryz.results25,go_sem,za0 HEH.out.1,za0 HEH.out.2.1]) rfl ⟨_,_,_,_,_,ms,by rw [HV.out],by rw [HV.out];exact (HEH.out.2.2.1.mono hbase).below (zar (Below.refl _ _)),by rw [HV.out];exact HMS.out,by rw [HV.out];exact (HEH.out.2.2.2.1.mono hbase).below (zar (Below.refl _ _)),HAPE.out,HEH.out.2.2.2.2.drew⟩
  · have hok' : ze3 n l=false:=by simpa using hok
    have HV : Hid _:=zs8 hok'
    have hfy:=hface.mono (R':=fun e w'=>Below WB.heap.size WB w'/\e = .returned (.tuple #[.agg hz9,.bool false])) (by
      rintro e w' ⟨b,⟨h,W1,-,⟨ms,ho,-⟩,-⟩ | ⟨e1,-⟩⟩
      · exact absurd ho hok
      · exact ⟨b,e1⟩)
    clear hface hok hok'
    go_enter Tryz.func25,Tryz.ntmps25
    go_upto_region 1 with fail
    rw [<- HWA.out,<- HWB.out];clear HWA HWB
    go_upto_region 2 with (go_at_call 59;refine hfy.mono ?_;rintro e w5 ⟨b5,rfl⟩;dsimp only [hz9])
    obtain ⟨W6,hW6,kH,d6,z6⟩:=zb4 w5 #[.bool false,.int .i64 0,.slice none 0 0,.int .i64 0,.slice none 0 0,.slice none 0 0,.slice none 0 0,.slice none 0 0,.slice none 0 0] 35;have HW6 : Hid (W6 = _):=hW6;have D6:=za1 b5 d6;have kS6:=kb0 D6 kS;have kM6:=kb0 D6 kM;have HE:=zqn (x:=Rp.zero) (w:=w) (a:=w.heap.size+1+1) (b:=w.heap.size+1+1+1) (by omega) (by omega) (by omega) (WB.heap.size+1+1) (by omega) (by omega) kS6 kM6 (OwnS.nil _ _) (OwnM.nil _ _) (za1 d0 D6) _ rfl
    obtain ⟨W7,hW7⟩ : ∃ W7 : World,W7=((((W6.setCell ⟨w.heap.size+1+1,0,none⟩ (.slice none 0 0)).setCell ⟨w.heap.size+1+1,1,none⟩ (.slice none 0 0)).setCell ⟨w.heap.size+1+1,2,none⟩ (.slice none 0 0)).setCell ⟨w.heap.size+1+1+1,0,none⟩ (.slice none 0 0)).setCell ⟨w.heap.size+1+1+1,1,none⟩ (.slice none 0 0):=⟨_,rfl⟩
    rw [<- hW7] at HE;have HW7 : Hid (W7 = _):=hW7;have HEH : Hid _:=HE;have q4:=za0 kH 4;have q5:=za0 kH 5;have q6:=za0 kH 6;have q7:=za0 kH 7;have q8:=za0 kH 8;obtain ⟨s0,s1,s2⟩:=cq3 kS6;obtain ⟨m0,m1⟩:=cq2 kM6;obtain ⟨f0,f1,f2⟩:=oq3 kS6;obtain ⟨g0,g1⟩:=oq2 kM6;have hbase : w.heap.size<=WB.heap.size+1+1:=by omega
    clear hW6 hW7 HE kH kS6 kM6 hfy kS kM b5 d6 z6 D6;rw [<- HW6.out];clear HW6
    go_region
    rw [<- HW7.out];clear HW7 s0 s1 s2 m0 m1 f0 f1 f2 g0 g1 q4 q5 q6 q7 q8
    go_wp2_with fail
    exact bodyPost_ret (v:=.tuple #[.agg #[.slice none 0 0,.slice none 0 0,.slice none 0 0],.agg #[.slice none 0 0,.slice none 0 0],.bool false]) (by simp [results,Tryz.results25,go_sem,za0 HEH.out.1,za0 HEH.out.2.1]) rfl ⟨_,_,_,_,_,[],by rw [HV.out],by rw [HV.out];exact (HEH.out.2.2.1.mono hbase).below (zar (Below.refl _ _)),by rw [HV.out];rfl,by rw [HV.out];exact (HEH.out.2.2.2.1.mono hbase).below (zar (Below.refl _ _)),(fun g h=>by rcases h with h | h <;> cases h),HEH.out.2.2.2.2.drew⟩
end Go.Proofs.YtfkkapdofjhgpaaGreatDoor
namespace Go.Proofs.YtfkkapdofjhgpaaGreatDoor
open Go.RowKit
set_option linter.unusedVariables false
set_option maxRecDepth 100000
theorem znt : ∀ (ms : List Bk),(∀ b ∈ ms,b.rs.length<=16)->zmn ms<=16 * ms.length
  | [],_=>by simp [zmn]
  | b :: ms,h=>by
    have ih:=znt ms (fun x hx=>h x (List.mem_cons_of_mem _ hx));have hb:=h b (List.mem_cons_self ..);have e : zmn (b :: ms)=b.rs.length+zmn ms:=rfl;rw [e,List.length_cons]
    omega
theorem zuv (k : Int) (cs ps : List Int) (bks : List Bk) : zfm k cs ps bks=k+cs.length+ps.length+4 * bks.length+3 * zmn bks:=by rw [zfm,zi2]
theorem OwnS.ins {base : Nat} {w : World} {v1 v2 vb : Value} {cs ps : List Int} {bks : List Bk} (h : OwnS base w v1 v2 vb cs ps bks) (g : Nat) (hg : InS v1 v2 vb bks g) : base<=g/\g < w.heap.size:=by
  rcases hg with e | e | e | ⟨b,hb,e⟩
  · exact h.p.c.lt g e
  · exact h.p.p.lt g e
  · exact h.b.row.lt g e
  · exact (h.b.maps b hb).lt g e
end Go.Proofs.YtfkkapdofjhgpaaGreatDoor
namespace Go.Proofs.YtfkkapdofjhgpaaGreatDoor
set_option linter.unusedVariables false
set_option maxRecDepth 100000
theorem zol (n : Int) (l : List Ent) : (zbu n l).1.s.cs.length<=24/\(zbu n l).1.s.ps.length<=24/\(zbu n l).1.ts.length<=4/\(zbu n l).1.rs.length<=4/\(zbu n l).1.s.bs.length<=6/\∀ b ∈ (zbu n l).1.s.bs,b.rs.length<=16:=by
  unfold zbu
  split
  · rename_i hok
    have inv:=zrh hok;obtain ⟨m1,m2⟩:=zj9 inv.m;have hp:=inv.s.cells.p;have hn:=inv.s.n1;refine ⟨hn.2,by show (rpFrom (rpNew n) l).s.ps.length<=24;omega,by show (rpFrom (rpNew n) l).ts.length<=4;omega,by show (rpFrom (rpNew n) l).rs.length<=4;omega,inv.s.few,fun b hb=>?_⟩;have:=(zaw (inv.s.oks b hb)).2.2.2.1;simp only [mapOk,Bool.and_eq_true,decide_eq_true_eq] at this;exact this.2
  · exact ⟨Nat.zero_le _,Nat.zero_le _,Nat.zero_le _,Nat.zero_le _,Nat.zero_le _,fun b hb=>by cases hb⟩
theorem zqo {s : Sf} {ms : List Bk} (h : ms.map Bk.pb=s.bs) (hl : s.bs.length<=6) (hb : ∀ b ∈ s.bs,b.rs.length<=16) : ms.length<=6/\(∀ b ∈ ms,b.rs.length<=16)/\zmn ms<=96:=by
  have h1 : ms.length=s.bs.length:=by rw [<- h,List.length_map]
  have h2 : ∀ b ∈ ms,b.rs.length<=16:=fun b hm=>hb (Bk.pb b) (by rw [<- h];exact List.mem_map_of_mem hm)
  have h3:=znt ms h2;exact ⟨by omega,h2,by omega⟩
end Go.Proofs.YtfkkapdofjhgpaaGreatDoor
namespace Go.Proofs.YtfkkapdofjhgpaaGreatDoor
open Go.ChangeShapes Go.WideShapes Go.ChangeAt Go.RowKit Go.Deep Go.Joins
set_option linter.unusedVariables false
set_option maxRecDepth 100000
theorem zz3 {α : Type} {cs : List α} (h : cs.length=4) : ∃ c0 c1 c2 c3,cs = [c0,c1,c2,c3]:=by
  match cs,h with
  | [c0,c1,c2,c3],_=>exact ⟨c0,c1,c2,c3,rfl⟩
theorem zz4 {α : Type} {cs : List α} (h : cs.length=9) : ∃ c0 c1 c2 c3 c4 c5 c6 c7 c8,cs = [c0,c1,c2,c3,c4,c5,c6,c7,c8]:=by
  match cs,h with
  | [c0,c1,c2,c3,c4,c5,c6,c7,c8],_=>exact ⟨c0,c1,c2,c3,c4,c5,c6,c7,c8,rfl⟩
theorem zws {H : Type} {enc : TypeId × Value->H} {W : World} {n : Nat} {cs : List Value} {y : DataW H × List MemPlace} (h : DataW.trod enc Tryz.prog W 0 (fun _=>true) true n 86 cs=some y) :
    ∃ o : Oq,cs = [.int .i64 o.k,.string o.nm,.string o.ot,.int .i64 o.at_,.int .i64 o.va,.int .i64 o.ep]/\(o.nm.size<=maxLen/\o.ot.size<=maxLen)/\I64 o.k/\I64 o.at_/\I64 o.va/\I64 o.ep:=by
  have ce : Tryz.prog.cellsOf 86=6:=by kernel_rfl
  have c1 : Tryz.prog.cellsOf 2=1:=by kernel_rfl
  have c2 : Tryz.prog.cellsOf 9=1:=by kernel_rfl
  obtain ⟨xs,m,_,-,hl,hlen,hf⟩:=DataW.trod_struct Tryz.underlying86 h;obtain ⟨v0,v1,v2,v3,v4,v5,rfl⟩:=zyf (hl.trans ce);obtain ⟨y0,y1,y2,y3,y4,y5,rfl⟩:=zyf (show xs.length=6 from hlen);have t0:=hf 0 _ rfl;have t1:=hf 1 _ rfl;have t2:=hf 2 _ rfl;have t3:=hf 3 _ rfl;have t4:=hf 4 _ rfl;have t5:=hf 5 _ rfl;simp [c1,c2] at t0 t1 t2 t3 t4 t5;obtain ⟨k,e0,_,z0⟩:=DataW.trod_int Tryz.underlying2 t0;obtain ⟨nm,e1,_,z1⟩:=DataW.trod_string Tryz.underlying9 t1;obtain ⟨ot,e2,_,z2⟩:=DataW.trod_string Tryz.underlying9 t2;obtain ⟨at_,e3,_,z3⟩:=DataW.trod_int Tryz.underlying2 t3;obtain ⟨va,e4,_,z4⟩:=DataW.trod_int Tryz.underlying2 t4;obtain ⟨ep,e5,_,z5⟩:=DataW.trod_int Tryz.underlying2 t5;simp at e0 e1 e2 e3 e4 e5;subst e0 e1 e2 e3 e4 e5;exact ⟨⟨k,nm,ot,at_,va,ep⟩,rfl,⟨z1,z2⟩,zez z0,zez z3,zez z4,zez z5⟩
theorem zuw {H : Type} {enc : TypeId × Value->H} {W : World} {n : Nat} {cs : List Value} {y : DataW H × List MemPlace} (h : DataW.trod enc Tryz.prog W 0 (fun _=>true) true n 88 cs=some y) :
    ∃ e : Ent,cs=zbs e/\zlr e:=by
  have ce : Tryz.prog.cellsOf 88=9:=by kernel_rfl
  have c1 : Tryz.prog.cellsOf 2=1:=by kernel_rfl
  have c2 : Tryz.prog.cellsOf 86=6:=by kernel_rfl
  obtain ⟨xs,m,_,-,hl,hlen,hf⟩:=DataW.trod_struct Tryz.underlying88 h;obtain ⟨v0,v1,v2,v3,v4,v5,v6,v7,v8,rfl⟩:=zz4 (hl.trans ce);obtain ⟨y0,y1,y2,y3,rfl⟩:=zz3 (show xs.length=4 from hlen);have t0:=hf 0 _ rfl;have t1:=hf 1 _ rfl;have t2:=hf 2 _ rfl;have t3:=hf 3 _ rfl;simp [c1,c2] at t0 t1 t2 t3;obtain ⟨sq,e0,_,z0⟩:=DataW.trod_int Tryz.underlying2 t0;obtain ⟨cl,e1,_,z1⟩:=DataW.trod_int Tryz.underlying2 t1;obtain ⟨tg,e2,_,z2⟩:=DataW.trod_int Tryz.underlying2 t2;obtain ⟨o,e3,hs,fk,fa,fv,fe⟩:=zws t3;simp at e0 e1 e2 e3;obtain ⟨rfl,rfl,rfl,rfl,rfl,rfl⟩:=e3;subst e0 e1 e2;exact ⟨⟨sq,cl,tg,o⟩,rfl,hs,zez z0,zez z1,zez z2,fk,fa,fv,fe⟩
theorem zom {H : Type} {enc : TypeId × Value->H} {W : World} {base : Nat} {v : Value} {d : DataW H} {p : List MemPlace} (hv : Value.okWide Tryz.prog W .any base 67 v) (h : DataW.Trod enc Tryz.prog W 0 (fun _=>true) true 67 v d p) :
    ∃ bs : List Ent,ReadsR 9 zbs W.heap.size W v bs/\ze0 bs:=by
  obtain ⟨o,len,cap,rfl⟩:=okWide_slice Tryz.underlying67 hv;obtain ⟨n,hn⟩:=h
  rcases open_slice Tryz.underlying67 hn with ⟨hcs,_⟩ | ⟨a,len',cap',m,k,D,Pl,hcs,_,hl,hm,hmm,_,hx⟩
  · simp [Value.cells] at hcs
    obtain ⟨rfl,rfl,rfl⟩:=hcs;exact ⟨[],ReadsR.nil _ _ _ _,fun b hb=>by cases hb⟩
  · simp [Value.cells] at hcs
    obtain ⟨rfl,rfl,rfl⟩:=hcs;have hlm : len<=m:=by rw [hmm];split <;> omega
    have ce : Tryz.prog.cellsOf 88=9:=by kernel_rfl
    have each : ∀ i,i < len->∃ b : Ent,(∀ j u,(zbs b)[j]? = some u->W.cell? (a.add (i * 9+j))=some u)/\zlr b:=by
      intro i hi;obtain ⟨cs',h1,h2⟩:=hx i (by omega);rw [ce] at h1;obtain ⟨_,hlen,hcell⟩:=World.cells?_some h1;obtain ⟨b,rfl,hfit⟩:=zuw h2;refine ⟨b,fun j u hj=>?_,hfit⟩;have hj5 : j < 9:=by have:=(List.getElem?_eq_some_iff.1 hj).1;rwa [zay] at this
      have q:=hcell j hj5;rw [add_add] at q;rw [q];exact hj
    have hin : Inhabited Ent:=⟨Ent.zero⟩
    obtain ⟨r,hr⟩:=choose_lt each;refine ⟨(List.range len).map r,⟨some a,cap,by simp,by simp;omega,fun i x hi=>?_,by simp;omega⟩,fun x hx=>?_⟩
    · have hil : i < len:=by have:=(List.getElem?_eq_some_iff.1 hi).1;simpa using this
      have ex : r i=x:=by
        rw [List.getElem?_map,List.getElem?_range hil] at hi
        simpa using hi
      have h0:=(hr i hil).1;rw [ex] at h0;obtain ⟨b,off,spot⟩:=a;have hspot : spot=none:=by simpa [Addr.add] using World.cell?_spot ((hr 0 (by omega)).1 0 _ rfl)
      subst hspot;have e : ∀ z,(⟨b,off,none⟩ : Addr).add z=⟨b,off+z,none⟩:=fun z=>by unfold Addr.add;split <;> simp_all
      have hb : b < W.heap.size:=by
        have q:=h0 0 _ rfl;rw [e] at q;rcases Nat.lt_or_ge b W.heap.size with g | g
        · exact g
        · simp [World.cell?,Array.getElem?_eq_none g] at q
      refine ⟨b,off,rfl,hb,fun j u hj=>?_⟩;have q:=h0 j u hj;rw [e] at q;rw [Nat.add_assoc];exact q
    · obtain ⟨i,hi,rfl⟩:=List.mem_map.1 hx
      exact (hr i (List.mem_range.1 hi)).2
theorem zqp (sq cl tg k : Int) (nm ot : ByteArray) (at_ va ep : Int) (left : Int) (w : World) (hn : nm.size<=maxLen) (ho : ot.size<=maxLen) (h0 : 0<=left) (hl : left<=1048576) :
    Calls Tryz.prog 47 #[.agg #[.int .i64 sq,.int .i64 cl,.int .i64 tg,.int .i64 k,.string nm,.string ot,.int .i64 at_,.int .i64 va,.int .i64 ep],.int .i64 left] w fun e w'=>∃ q : Int,e = .returned (.int .i64 q)/\(q = -1\/(0<=q/\q<=left/\nm.size<=1048576/\ot.size<=1048576))/\Below w.heap.size w w':=by
  obtain ⟨W0,hW0,k0,d0,z0⟩:=zb4 w #[.int .i64 sq,.int .i64 cl,.int .i64 tg,.int .i64 k,.string nm,.string ot,.int .i64 at_,.int .i64 va,.int .i64 ep] 88;have HW0 : Hid (W0 = _):=hW0;have p3:=za0 k0 3;have p4:=za0 k0 4;have p5:=za0 k0 5;have p6:=za0 k0 6;have p7:=za0 k0 7;have p8:=za0 k0 8;clear hW0 k0 z0
  go_enter Tryz.func47,Tryz.ntmps47
  go_wp2_with fail
  rw [<- HW0.out];refine (zvu k nm ot at_ va ep left _ hn ho h0 hl).mono ?_;rintro e w1 ⟨q,rfl,hq,b1⟩;replace d0:=za1 d0 b1;clear p3 p4 p5 p6 p7 p8 HW0
  rcases hq with rfl | ⟨hq0,hq1,hq2,hq3⟩
  · go_wp2_with fail
    go_ret;exact ⟨-1,rfl,.inl rfl,d0⟩
  · go_wp2_with fail
    go_ret;exact ⟨q,rfl,.inr ⟨hq0,hq1,hq2,hq3⟩,d0⟩
theorem zn1 (v : Value) (l : List Ent) (left : Int) (w : World) (h0 : 0<=left) (hl : left<=1048576) (hf : ze0 l) (r : ReadsR 9 zbs w.heap.size w v l) :
    Calls Tryz.prog 34 #[v,.int .i64 left] w fun e w'=>∃ q : Int,e = .returned (.int .i64 q)/\(q = -1\/(0<=q/\q<=left/\l.length<=1048576))/\Below w.heap.size w w':=by
  have HF : Hid _:=hf;obtain ⟨o,cap,rfl,hm,hc,-⟩:=r;have HC : Hid _:=zd6 hc;unfold maxLen at hm;clear hc hf;by_cases hbig : left < (l.length : Int)
  · have h1 : left - (l.length : Int) < 0:=by omega
    go_enter Tryz.func34,Tryz.ntmps34
    go_wp2_with fail
    go_ret;exact ⟨-1,rfl,.inl rfl,Below.refl _ _⟩
  · have h1 : 0<=left - (l.length : Int):=by omega
    go_enter Tryz.func34,Tryz.ntmps34
    go_wp2_with fail
    go_loopw [1,5] (fun q i wr=>∃ (k : Nat) (p : Int),k<=l.length/\i = .int .i64 k/\q = .int .i64 p/\(0<=p/\p<=left)/\Below w.heap.size w wr) (fun _ i _=>l.length - (intOf i).toNat)
    case atStart=>exact ⟨0,left - (l.length : Int),Nat.zero_le _,rfl,rfl,by omega,Below.refl _ _⟩
    case round =>
      obtain ⟨k,p,hk,rfl,rfl,hlq,hb⟩:=hrel;by_cases hlt : k < l.length
      · obtain ⟨g,off,rfl,hg,a0,a1,a2,a3,a4,a5,a6,a7,a8⟩:=HC.out k hlt
        have hfe:=HF.out l[k] (List.getElem_mem hlt);generalize l[k]=x at a0 a1 a2 a3 a4 a5 a6 a7 a8 hfe;obtain ⟨sq,cl,tg,⟨k1,nm,ot,at_,va,ep⟩⟩:=x;simp only at a0 a1 a2 a3 a4 a5 a6 a7 a8;obtain ⟨⟨hn,ho⟩,-⟩:=hfe;simp only at hn ho;replace a0:=(hb.cell (p:=⟨g,off+k * 9,none⟩) hg).trans a0;replace a1:=(hb.cell (p:=⟨g,off+k * 9+1,none⟩) hg).trans a1;replace a2:=(hb.cell (p:=⟨g,off+k * 9+2,none⟩) hg).trans a2;replace a3:=(hb.cell (p:=⟨g,off+k * 9+3,none⟩) hg).trans a3;replace a4:=(hb.cell (p:=⟨g,off+k * 9+4,none⟩) hg).trans a4;replace a5:=(hb.cell (p:=⟨g,off+k * 9+5,none⟩) hg).trans a5;replace a6:=(hb.cell (p:=⟨g,off+k * 9+6,none⟩) hg).trans a6;replace a7:=(hb.cell (p:=⟨g,off+k * 9+7,none⟩) hg).trans a7;replace a8:=(hb.cell (p:=⟨g,off+k * 9+8,none⟩) hg).trans a8;clear HC HF
        go_wp2_with fail
        refine (zqp sq cl tg k1 nm ot at_ va ep p _ hn ho hlq.1 (by omega)).mono ?_;rintro e w1 ⟨q,rfl,hq,b1⟩;replace hb:=za1 hb b1;clear a0 a1 a2 a3 a4 a5 a6 a7 a8 b1
        rcases hq with rfl | ⟨hq0,hq1,-,-⟩
        · go_wp2_with fail
          go_ret;exact ⟨-1,rfl,.inl rfl,hb⟩
        · go_wp2_with fail
          go_roundw
          case rel=>exact ⟨k+1,q,by omega,by go_num,rfl,by omega,hb⟩
          case measure=>simp [intOf];omega
      · clear HC HF
        go_wp2_with fail
        go_ret;exact ⟨p,rfl,.inr ⟨hlq.1,hlq.2,by omega⟩,hb⟩
theorem zwt (x0 x1 x2 x3 x4 x5 x6 x7 x8 z0 z1 z2 z3 z4 z5 z6 z7 z8 : Value) : (((((((((#[x0,x1,x2,x3,x4,x5,x6,x7,x8].setIfInBounds 0 z0).setIfInBounds 1 z1).setIfInBounds 2 z2).setIfInBounds 3 z3).setIfInBounds 4 z4).setIfInBounds 5 z5).setIfInBounds 6 z6).setIfInBounds 7 z7).setIfInBounds 8 z8) = #[z0,z1,z2,z3,z4,z5,z6,z7,z8]:=by
  apply Array.toList_inj.1
  simp only [Array.toList_setIfInBounds]
  rfl
theorem zyd (x0 x1 x2 x3 x4 x5 x6 x7 x8 y3 y4 y5 y6 y7 y8 : Value) : ((((((#[x0,x1,x2,x3,x4,x5,x6,x7,x8].setIfInBounds 3 y3).setIfInBounds 4 y4).setIfInBounds 5 y5).setIfInBounds 6 y6).setIfInBounds 7 y7).setIfInBounds 8 y8) = #[x0,x1,x2,y3,y4,y5,y6,y7,y8]:=by
  apply Array.toList_inj.1
  simp only [Array.toList_setIfInBounds]
  rfl
theorem zwu {w W : World} {b : Nat} {x0 x1 x2 x3 x4 x5 x6 x7 x8 : Value} {t : TypeId} (h : w.heap.size<=b) (k : W.heap[b]? = some (.cells #[x0,x1,x2,x3,x4,x5,x6,x7,x8] t (0,0))) (d : Below w.heap.size w W) (z0 z1 z2 z3 z4 z5 z6 z7 z8 : Value) :
    (((((((((W.setCell ⟨b,0,none⟩ z0).setCell ⟨b,1,none⟩ z1).setCell ⟨b,2,none⟩ z2).setCell ⟨b,3,none⟩ z3).setCell ⟨b,4,none⟩ z4).setCell ⟨b,5,none⟩ z5).setCell ⟨b,6,none⟩ z6).setCell ⟨b,7,none⟩ z7).setCell ⟨b,8,none⟩ z8).heap[b]? = some (.cells #[z0,z1,z2,z3,z4,z5,z6,z7,z8] t (0,0))/\Below w.heap.size w (((((((((W.setCell ⟨b,0,none⟩ z0).setCell ⟨b,1,none⟩ z1).setCell ⟨b,2,none⟩ z2).setCell ⟨b,3,none⟩ z3).setCell ⟨b,4,none⟩ z4).setCell ⟨b,5,none⟩ z5).setCell ⟨b,6,none⟩ z6).setCell ⟨b,7,none⟩ z7).setCell ⟨b,8,none⟩ z8):=by
  refine ⟨?_,zb8 (zb8 (zb8 (zb8 (zb8 (zb8 (zb8 (zb8 (zb8 (d) h _) h _) h _) h _) h _) h _) h _) h _) h _⟩;have e:=k;replace e:=zab e 0 z0;replace e:=zab e 1 z1;replace e:=zab e 2 z2;replace e:=zab e 3 z3;replace e:=zab e 4 z4;replace e:=zab e 5 z5;replace e:=zab e 6 z6;replace e:=zab e 7 z7;replace e:=zab e 8 z8;rw [zwt] at e;exact e
theorem zye {w W : World} {b : Nat} {x0 x1 x2 x3 x4 x5 x6 x7 x8 : Value} {t : TypeId} (h : w.heap.size<=b) (k : W.heap[b]? = some (.cells #[x0,x1,x2,x3,x4,x5,x6,x7,x8] t (0,0))) (d : Below w.heap.size w W) (y3 y4 y5 y6 y7 y8 : Value) :
    ((((((W.setCell ⟨b,3,none⟩ y3).setCell ⟨b,4,none⟩ y4).setCell ⟨b,5,none⟩ y5).setCell ⟨b,6,none⟩ y6).setCell ⟨b,7,none⟩ y7).setCell ⟨b,8,none⟩ y8).heap[b]? = some (.cells #[x0,x1,x2,y3,y4,y5,y6,y7,y8] t (0,0))/\Below w.heap.size w ((((((W.setCell ⟨b,3,none⟩ y3).setCell ⟨b,4,none⟩ y4).setCell ⟨b,5,none⟩ y5).setCell ⟨b,6,none⟩ y6).setCell ⟨b,7,none⟩ y7).setCell ⟨b,8,none⟩ y8)/\Upto b W ((((((W.setCell ⟨b,3,none⟩ y3).setCell ⟨b,4,none⟩ y4).setCell ⟨b,5,none⟩ y5).setCell ⟨b,6,none⟩ y6).setCell ⟨b,7,none⟩ y7).setCell ⟨b,8,none⟩ y8):=by
  refine ⟨?_,zb8 (zb8 (zb8 (zb8 (zb8 (zb8 (d) h _) h _) h _) h _) h _) h _,((((((Upto.refl b W).setCell ⟨b,3,none⟩ (.inl rfl) y3).setCell ⟨b,4,none⟩ (.inl rfl) y4).setCell ⟨b,5,none⟩ (.inl rfl) y5).setCell ⟨b,6,none⟩ (.inl rfl) y6).setCell ⟨b,7,none⟩ (.inl rfl) y7).setCell ⟨b,8,none⟩ (.inl rfl) y8⟩;have e:=k;replace e:=zab e 3 y3;replace e:=zab e 4 y4;replace e:=zab e 5 y5;replace e:=zab e 6 y6;replace e:=zab e 7 y7;replace e:=zab e 8 y8;rw [zyd] at e;exact e
theorem zqq (sq cl tg k : Int) (nm ot : ByteArray) (at_ va ep : Int) (w : World) :
    Calls Tryz.prog 48 #[.agg #[.int .i64 sq,.int .i64 cl,.int .i64 tg,.int .i64 k,.string nm,.string ot,.int .i64 at_,.int .i64 va,.int .i64 ep]] w fun e w'=>e = .returned (.agg #[.int .i64 sq,.int .i64 cl,.int .i64 tg,.int .i64 k,.string nm,.string ot,.int .i64 at_,.int .i64 va,.int .i64 ep])/\Below w.heap.size w w':=by
  obtain ⟨W1,hW0,k0,k1,k2,d0,z0⟩:=zg0 w #[.int .i64 sq,.int .i64 cl,.int .i64 tg,.int .i64 k,.string nm,.string ot,.int .i64 at_,.int .i64 va,.int .i64 ep] #[.int .i64 0,.int .i64 0,.int .i64 0,.int .i64 0,.string ⟨#[]⟩,.string ⟨#[]⟩,.int .i64 0,.int .i64 0,.int .i64 0] #[.int .i64 sq,.int .i64 cl,.int .i64 tg,.int .i64 0,.string ⟨#[]⟩,.string ⟨#[]⟩,.int .i64 0,.int .i64 0,.int .i64 0] 88 39 39;have z0a : w.heap.size+1+1+1<=W1.heap.size:=by omega
  clear z0;have HW0 : Hid _:=hW0;clear hW0
  go_enter Tryz.func48,Tryz.ntmps48
  go_wp2_with (fail)
  rw [<- HW0.out];clear HW0;refine (zvv k nm ot at_ va ep _).mono ?_;rintro e w1 ⟨rfl,b1⟩;replace k1:=(b1.block _ (by omega)).trans k1;replace k2:=(b1.block _ (by omega)).trans k2;replace d0:=za1 d0 b1;clear b1 k0;have c3:=za0 k2 3;have c4:=za0 k2 4;have c5:=za0 k2 5;have c6:=za0 k2 6;have c7:=za0 k2 7;have c8:=za0 k2 8;have f3:=za8 k2 3;have f4:=za8 k2 4;have f5:=za8 k2 5;have f6:=za8 k2 6;have f7:=za8 k2 7;have f8:=za8 k2 8;obtain ⟨s1,s2,s3⟩:=zye (b:=w.heap.size+1+1) (by omega) k2 d0 (.int .i64 k) (.string nm) (.string ot) (.int .i64 at_) (.int .i64 va) (.int .i64 ep);have e1:=(s3.block (w.heap.size+1) (za2 k1) (by omega)).trans k1;clear s3 k1 k2 d0
  go_upto_region 6 with fail
  generalize ((((((w1.setCell ⟨w.heap.size+1+1,3,none⟩ (.int .i64 k)).setCell ⟨w.heap.size+1+1,4,none⟩ (.string nm)).setCell ⟨w.heap.size+1+1,5,none⟩ (.string ot)).setCell ⟨w.heap.size+1+1,6,none⟩ (.int .i64 at_)).setCell ⟨w.heap.size+1+1,7,none⟩ (.int .i64 va)).setCell ⟨w.heap.size+1+1,8,none⟩ (.int .i64 ep))=W2 at *;clear c3 f3 c4 f4 c5 f5 c6 f6 c7 f7 c8 f8;obtain ⟨c0,c1,c2,c3,c4,c5,c6,c7,c8⟩:=cq9 s1;obtain ⟨q0,q1,q2,q3,q4,q5,q6,q7,q8⟩:=cq9 e1;obtain ⟨g0,g1,g2,g3,g4,g5,g6,g7,g8⟩:=oq9 e1;have HS : Hid _:=zwu (b:=w.heap.size+1) (by omega) e1 s2 (.int .i64 sq) (.int .i64 cl) (.int .i64 tg) (.int .i64 k) (.string nm) (.string ot) (.int .i64 at_) (.int .i64 va) (.int .i64 ep);clear s1 s2 e1 z0a
  go_wp2_with fail
  exact bodyPost_ret (v:=.agg #[.int .i64 sq,.int .i64 cl,.int .i64 tg,.int .i64 k,.string nm,.string ot,.int .i64 at_,.int .i64 va,.int .i64 ep]) (by simp [results,Tryz.results48,go_sem,za0 HS.out.1]) rfl ⟨rfl,HS.out.2⟩
theorem zon (sq cl tg k : Int) (nm ot : ByteArray) (at_ va ep : Int) (w : World) :
    Calls Tryz.prog 97 #[.agg #[.int .i64 sq,.int .i64 cl,.int .i64 tg,.int .i64 k,.string nm,.string ot,.int .i64 at_,.int .i64 va,.int .i64 ep],.agg #[.int .i64 sq,.int .i64 cl,.int .i64 tg,.int .i64 k,.string nm,.string ot,.int .i64 at_,.int .i64 va,.int .i64 ep]] w fun e w'=>e = .returned (.bool true)/\Below w.heap.size w w':=by
  obtain ⟨W0,hW0,k0,k1,d0,z0⟩:=zc7 w #[.int .i64 sq,.int .i64 cl,.int .i64 tg,.int .i64 k,.string nm,.string ot,.int .i64 at_,.int .i64 va,.int .i64 ep] #[.int .i64 sq,.int .i64 cl,.int .i64 tg,.int .i64 k,.string nm,.string ot,.int .i64 at_,.int .i64 va,.int .i64 ep] 39 39;have HW0 : Hid (W0 = _):=hW0;have p0:=za0 k0 0;have q0:=za0 k1 0;have p1:=za0 k0 1;have q1:=za0 k1 1;have p2:=za0 k0 2;have q2:=za0 k1 2;have p3:=za0 k0 3;have q3:=za0 k1 3;have p4:=za0 k0 4;have q4:=za0 k1 4;have p5:=za0 k0 5;have q5:=za0 k1 5;have p6:=za0 k0 6;have q6:=za0 k1 6;have p7:=za0 k0 7;have q7:=za0 k1 7;have p8:=za0 k0 8;have q8:=za0 k1 8;clear hW0 k0 k1 z0
  go_enter Tryz.func97,Tryz.ntmps97
  go_wp2_with fail
  rw [<- HW0.out];clear HW0;refine (ztl k nm ot at_ va ep _).mono ?_;rintro e w1 ⟨rfl,b1⟩;replace d0:=za1 d0 b1
  go_wp2_with fail
  go_ret;exact ⟨rfl,d0⟩
end Go.Proofs.YtfkkapdofjhgpaaGreatDoor
