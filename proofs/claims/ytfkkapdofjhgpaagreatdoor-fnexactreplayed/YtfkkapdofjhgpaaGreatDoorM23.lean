import Derived.Lib.Strings
import Derived.Shelf.LaysM
import Derived.Shelf.Strconv.Clone
import Derived.Tactics2
import Derived.ScopeJumps
import Derived.WalkMore
import Derived.Deep.Cut
import Derived.Deep.RegionLaw
import Derived.Lib.Slices
import Derived.Lib.Walk
import Derived.Lib.Bytealg
import Derived.Test.YtfkkapdofjhgpaaGreatDoorM01
import Derived.Test.YtfkkapdofjhgpaaGreatDoorM02
import Derived.Test.YtfkkapdofjhgpaaGreatDoorM05
import Derived.Test.YtfkkapdofjhgpaaGreatDoorM06
import Derived.Test.YtfkkapdofjhgpaaGreatDoorM08
import Derived.Test.YtfkkapdofjhgpaaGreatDoorM11
import Derived.Test.YtfkkapdofjhgpaaGreatDoorM17
import Derived.Test.YtfkkapdofjhgpaaGreatDoorM22
set_option maxHeartbeats 12800000
namespace Go.Proofs.YtfkkapdofjhgpaaGreatDoor
open Go.RowKit Nums
set_option linter.unusedVariables false
set_option maxRecDepth 100000
theorem zo9 {w W : World} {u1 u2 vb m1 m2 : Value} {x : Rp} (kR : W.heap[w.heap.size]? = some (.cells #[.slice none 0 0,.slice none 0 0,.slice none 0 0] 30 (0,0))) (kQ : W.heap[w.heap.size+1]? = some (.cells #[.slice none 0 0,.slice none 0 0] 33 (0,0)))
    (od : OwnD (w.heap.size+1+1) W u1 u2 vb x.s) (om : OwnM (w.heap.size+1+1) W m1 m2 x.ts x.rs) (d : Below w.heap.size w W) : ∀ W',(W'=((((W.setCell ⟨w.heap.size,0,none⟩ u1).setCell ⟨w.heap.size,1,none⟩ u2).setCell ⟨w.heap.size,2,none⟩ vb).setCell ⟨w.heap.size+1,0,none⟩ m1).setCell ⟨w.heap.size+1,1,none⟩ m2\/W'=((((W.setCell ⟨w.heap.size+1,0,none⟩ m1).setCell ⟨w.heap.size+1,1,none⟩ m2).setCell ⟨w.heap.size,0,none⟩ u1).setCell ⟨w.heap.size,1,none⟩ u2).setCell ⟨w.heap.size,2,none⟩ vb) ->
    W'.heap[w.heap.size]? = some (.cells #[u1,u2,vb] 30 (0,0))/\W'.heap[w.heap.size+1]? = some (.cells #[m1,m2] 33 (0,0))/\OwnD w.heap.size W' u1 u2 vb x.s/\OwnM w.heap.size W' m1 m2 x.ts x.rs/\Below w.heap.size w W':=by
  intro W' hW';rcases hW' with rfl | rfl
  · have a1:=zab (zab (zab kR 0 u1) 1 u2) 2 vb
    have ua : Upto w.heap.size W (((W.setCell ⟨w.heap.size,0,none⟩ u1).setCell ⟨w.heap.size,1,none⟩ u2).setCell ⟨w.heap.size,2,none⟩ vb):=(((Upto.refl _ _).setCell ⟨w.heap.size,0,none⟩ (.inl rfl) _).setCell ⟨w.heap.size,1,none⟩ (.inl rfl) _).setCell ⟨w.heap.size,2,none⟩ (.inl rfl) _;have kq:=(ua.block _ (za2 kQ) (by omega)).trans kQ;obtain ⟨b1,ub⟩:=zcp kq m1 m2;have ha:=(ub.block _ (za2 a1) (by omega)).trans a1;exact ⟨ha,b1,((od.upto ua (by omega)).upto ub (by omega)).mono (by omega),((om.upto ua (by omega)).upto ub (by omega)).mono (by omega),(d.trans (ua.toBelow (by have:=d.size;omega) (by omega))).trans (ub.toBelow (by have:=d.size;have:=ua.size;omega) (by omega))⟩
  · obtain ⟨b1,ub⟩:=zcp kQ m1 m2
    have kr:=(ub.block _ (za2 kR) (by omega)).trans kR;have a1:=zab (zab (zab kr 0 u1) 1 u2) 2 vb;have ua : ∀ X : World,Upto w.heap.size X (((X.setCell ⟨w.heap.size,0,none⟩ u1).setCell ⟨w.heap.size,1,none⟩ u2).setCell ⟨w.heap.size,2,none⟩ vb):=fun X=>(((Upto.refl _ _).setCell ⟨w.heap.size,0,none⟩ (.inl rfl) _).setCell ⟨w.heap.size,1,none⟩ (.inl rfl) _).setCell ⟨w.heap.size,2,none⟩ (.inl rfl) _
    have hb1:=((ua _).block _ (za2 b1) (by omega)).trans b1;exact ⟨a1,hb1,((od.upto ub (by omega)).upto (ua _) (by omega)).mono (by omega),((om.upto ub (by omega)).upto (ua _) (by omega)).mono (by omega),(d.trans (ub.toBelow (by have:=d.size;omega) (by omega))).trans ((ua _).toBelow (by have:=d.size;have:=ub.size;omega) (by omega))⟩
theorem znm {n : Int} {l : List Ent} (h : ze3 n l=false) : zbu n l=(Rp.zero,false):=by rw [zbu,if_neg (by rw [h];decide)]
theorem zrr {n : Int} {l : List Ent} (h : ze3 n l=true) : zbu n l=(rpFrom (rpNew n) l,true):=by rw [zbu,if_pos h]
theorem zjf (n : Int) (v : Value) (l : List Ent) (w : World) (hf : ze0 l) (r : ReadsR 9 zbs w.heap.size w v l) :
    Calls Tryz.prog 26 #[.int .i64 n,v] w fun e w'=>∃ u1 u2 ub t1 t2 : Value,e = .returned (.tuple #[.agg #[u1,u2,ub],.agg #[t1,t2],.bool (zbu n l).2])/\OwnD w.heap.size w' u1 u2 ub (zbu n l).1.s/\OwnM w.heap.size w' t1 t2 (zbu n l).1.ts (zbu n l).1.rs/\Below w.heap.size w w':=by
  obtain ⟨W0,hW0,k0,k1,d0,z0⟩:=zc7 w #[.slice none 0 0,.slice none 0 0,.slice none 0 0] #[.slice none 0 0,.slice none 0 0] 30 33;have HW0 : Hid (W0 = _):=hW0;have r0:=(r.below d0).mono d0.size;have HRO : Hid (ze3 n l=(inB n 1 24 && logOk l)):=rfl;obtain ⟨o,cap,rfl,-⟩:=id r0;clear hW0 r
  go_enter Tryz.func26,Tryz.ntmps26
  go_upto_region 1 with fail
  rw [<- HW0.out];clear HW0;cases h1 : inB n 1 24
  · have hq : (decide ((1 : Int)<=n) && decide (n<=24))=false:=h1
    have HB : Hid (ze3 n l=false):=by rw [Hid,HRO.out,h1];rfl
    go_upto_region 2 with (first | (go_at_call 74;refine (zb3 n 1 24 _).mono ?_;rintro e w1 ⟨rfl,rfl⟩;rw [hq]) | (go_at_call 77;refine (zfl _ l _ hf r0).mono ?_;rintro e w2 ⟨rfl,b2⟩;rw [h2]))
    have kR:=k0;have kQ:=k1;have HE : Hid _:=zo9 (w:=w) (x:=Rp.zero) (u1:=.slice none 0 0) (u2:=.slice none 0 0) (vb:=.slice none 0 0) (m1:=.slice none 0 0) (m2:=.slice none 0 0) kR kQ (OwnD.nil _ _) (OwnM.nil _ _) d0 _ (.inl rfl);obtain ⟨q0,q1,q2⟩:=cq3 kR;obtain ⟨f0,f1,f2⟩:=oq3 kR;obtain ⟨p0,p1⟩:=cq2 kQ;obtain ⟨e0,e1⟩:=oq2 kQ;have HV : Hid _:=znm HB.out;clear kR kQ r0 k0 k1 d0 h1 hq
    go_wp2_with fail
    exact bodyPost_ret (v:=.tuple #[.agg #[.slice none 0 0,.slice none 0 0,.slice none 0 0],.agg #[.slice none 0 0,.slice none 0 0],.bool false]) (by simp [results,Tryz.results26,go_sem,za0 HE.out.1,za0 HE.out.2.1]) rfl ⟨_,_,_,_,_,by rw [HV.out],by rw [HV.out];exact HE.out.2.2.1,by rw [HV.out];exact HE.out.2.2.2.1,HE.out.2.2.2.2⟩
  · have hq : (decide ((1 : Int)<=n) && decide (n<=24))=true:=h1
    cases h2 : logOk l
    · have HB : Hid (ze3 n l=false):=by rw [Hid,HRO.out,h1,h2];rfl
      go_upto_region 2 with (first | (go_at_call 74;refine (zb3 n 1 24 _).mono ?_;rintro e w1 ⟨rfl,rfl⟩;rw [hq]) | (go_at_call 77;refine (zfl _ l _ hf r0).mono ?_;rintro e w2 ⟨rfl,b2⟩;rw [h2]))
      have kR:=kb0 b2 k0;have kQ:=kb0 b2 k1;have HE : Hid _:=zo9 (w:=w) (x:=Rp.zero) (u1:=.slice none 0 0) (u2:=.slice none 0 0) (vb:=.slice none 0 0) (m1:=.slice none 0 0) (m2:=.slice none 0 0) kR kQ (OwnD.nil _ _) (OwnM.nil _ _) (za1 d0 b2) _ (.inl rfl);obtain ⟨q0,q1,q2⟩:=cq3 kR;obtain ⟨f0,f1,f2⟩:=oq3 kR;obtain ⟨p0,p1⟩:=cq2 kQ;obtain ⟨e0,e1⟩:=oq2 kQ;have HV : Hid _:=znm HB.out;clear kR kQ r0 k0 k1 d0 h1 hq
      go_wp2_with fail
      exact bodyPost_ret (v:=.tuple #[.agg #[.slice none 0 0,.slice none 0 0,.slice none 0 0],.agg #[.slice none 0 0,.slice none 0 0],.bool false]) (by simp [results,Tryz.results26,go_sem,za0 HE.out.1,za0 HE.out.2.1]) rfl ⟨_,_,_,_,_,by rw [HV.out],by rw [HV.out];exact HE.out.2.2.1,by rw [HV.out];exact HE.out.2.2.2.1,HE.out.2.2.2.2⟩
    · have HB : Hid (ze3 n l=true):=by rw [Hid,HRO.out,h1,h2];rfl
      go_upto_region 3 with (first | (go_at_call 74;refine (zb3 n 1 24 _).mono ?_;rintro e w1 ⟨rfl,rfl⟩;rw [hq]) | (go_at_call 77;refine (zfl _ l _ hf r0).mono ?_;rintro e w2 ⟨rfl,b2⟩;rw [h2]))
      have r2:=(r0.below b2).mono b2.size;have HV : Hid _:=zrr HB.out
      go_upto_region 4 with (go_at_call 81;refine (zkc n _ l _ hf HB.out r2).mono ?_;rintro e w3 ⟨u1,u2,ub,t1,t2,rfl,od,om,b3⟩;obtain ⟨bks,ob,hbe⟩:=od.b;obtain ⟨x1,y1,f1⟩:=za4 od.p.c;obtain ⟨x2,y2,f2⟩:=za4 od.p.p;obtain ⟨x3,y3,f3⟩:=za4 ob.row;obtain ⟨x4,y4,x5,y5,f4,f5⟩:=om.forms;subst f1 f2 f3 f4 f5)
      have bb:=(za3 (o:=.cells #[.slice x1 (rpFrom (rpNew n) l).s.cs.length y1,.slice x2 (rpFrom (rpNew n) l).s.ps.length y2,.slice x3 bks.length y3] 30) (Below.refl w3.heap.size w3))
      have bb2:=za3 (o:=.cells #[.slice x4 (rpFrom (rpNew n) l).ts.length y4,.slice x5 (rpFrom (rpNew n) l).rs.length y5] 33) bb;obtain ⟨W4,hW4,kS,kM,-,z4⟩:=zc7 w3 #[.slice x1 (rpFrom (rpNew n) l).s.cs.length y1,.slice x2 (rpFrom (rpNew n) l).s.ps.length y2,.slice x3 bks.length y3] #[.slice x4 (rpFrom (rpNew n) l).ts.length y4,.slice x5 (rpFrom (rpNew n) l).rs.length y5] 30 33;rw [<- hW4] at bb2;have HW4 : Hid (W4 = _):=hW4;have od4:=od.below bb2;have om4:=om.below bb2;have s2:=b2.size;have s3:=b3.size;have kR:=(bb2.block _ (by omega)).trans ((b3.block _ (by omega)).trans ((b2.block _ (by omega)).trans k0));have kQ:=(bb2.block _ (by omega)).trans ((b3.block _ (by omega)).trans ((b2.block _ (by omega)).trans k1));have HFN : Hid _:=zo9 (w:=w) kR kQ (od4.mono (by omega)) (om4.mono (by omega)) (za1 (za1 (za1 d0 b2) b3) bb2);have y1' : ¬ w3.heap.size=w.heap.size:=by omega
      have y2' : ¬ w3.heap.size=w.heap.size+1:=by omega
      have y3' : ¬ w3.heap.size+1=w.heap.size:=by omega
      have y4' : ¬ w3.heap.size+1=w.heap.size+1:=by omega
      have y5' : ¬ w.heap.size=w3.heap.size:=by omega
      have y6' : ¬ w.heap.size+1=w3.heap.size:=by omega
      have y7' : ¬ w.heap.size=w3.heap.size+1:=by omega
      have y8' : ¬ w.heap.size+1=w3.heap.size+1:=by omega
      rw [<- HW4.out];clear hW4 HW4 bb bb2 od om od4 om4 s2 s3 b2 b3 r2 r0 k0 k1 d0 z0 z4 hbe ob;generalize w3.heap.size=nb at *;generalize (rpFrom (rpNew n) l).s.cs.length=N1 at *;generalize (rpFrom (rpNew n) l).s.ps.length=N2 at *;generalize (rpFrom (rpNew n) l).ts.length=N3 at *;generalize (rpFrom (rpNew n) l).rs.length=N4 at *;generalize bks.length=N5 at *;obtain ⟨s0,s1,s2⟩:=cq3 kS;obtain ⟨m0,m1⟩:=cq2 kM;obtain ⟨q0,q1,q2⟩:=cq3 kR;obtain ⟨f0,f1,f2⟩:=oq3 kR;obtain ⟨p0,p1⟩:=cq2 kQ;obtain ⟨e0,e1⟩:=oq2 kQ;have s0' : W4.drew.cell? ⟨nb,0,none⟩ = _:=s0;have s1' : W4.drew.cell? ⟨nb,1,none⟩ = _:=s1;have s2' : W4.drew.cell? ⟨nb,2,none⟩ = _:=s2;have m0' : W4.drew.cell? ⟨nb+1,0,none⟩ = _:=m0;have m1' : W4.drew.cell? ⟨nb+1,1,none⟩ = _:=m1;have q0' : W4.drew.cell? ⟨w.heap.size,0,none⟩ = _:=q0;have q1' : W4.drew.cell? ⟨w.heap.size,1,none⟩ = _:=q1;have q2' : W4.drew.cell? ⟨w.heap.size,2,none⟩ = _:=q2;have f0' : W4.drew.frozen? ⟨w.heap.size,0,none⟩ = _:=f0;have f1' : W4.drew.frozen? ⟨w.heap.size,1,none⟩ = _:=f1;have f2' : W4.drew.frozen? ⟨w.heap.size,2,none⟩ = _:=f2;have p0' : W4.drew.cell? ⟨w.heap.size+1,0,none⟩ = _:=p0;have p1' : W4.drew.cell? ⟨w.heap.size+1,1,none⟩ = _:=p1;have e0' : W4.drew.frozen? ⟨w.heap.size+1,0,none⟩ = _:=e0;have e1' : W4.drew.frozen? ⟨w.heap.size+1,1,none⟩ = _:=e1;clear kS kM kR kQ
      go_region
      all_goals
        obtain ⟨h1,h2,h3,h4,h5⟩:=HFN.out _ (by first | exact .inl rfl | exact .inr rfl);have HE : Hid _:=And.intro h1 (And.intro h2 (And.intro h3 (And.intro h4 h5)));clear h1 h2 h3 h4 h5 HFN
        go_wp2_with fail
        exact bodyPost_ret (v:=.tuple #[.agg #[.slice x1 N1 y1,.slice x2 N2 y2,.slice x3 N5 y3],.agg #[.slice x4 N3 y4,.slice x5 N4 y5],.bool true]) (by simp [results,Tryz.results26,go_sem,za0 HE.out.1,za0 HE.out.2.1]) rfl ⟨_,_,_,_,_,by rw [HV.out],by rw [HV.out];exact HE.out.2.2.1.below ((Below.refl _ _).drew),by rw [HV.out];exact HE.out.2.2.2.1.below ((Below.refl _ _).drew),HE.out.2.2.2.2.drew⟩
end Go.Proofs.YtfkkapdofjhgpaaGreatDoor
namespace Go.Proofs.YtfkkapdofjhgpaaGreatDoor
open Go.RowKit
set_option linter.unusedVariables false
set_option maxRecDepth 100000
def zw4 : Go.Shelf.Ren:=⟨fun | 316=>216 | n=>n,fun | 9=>9 | 3=>3 | 4=>4 | 37=>22 | 0=>0 | 127=>268 | 5=>5 | n=>n,fun | n=>n⟩
theorem ztw : Go.Proofs.LaysM.n316 Tryz.prog zw4 where
  mixed:=by kernel_rfl
  f316:=Tryz.func216.trans (congrArg some (by kernel_rfl))
  t0:=Tryz.underlying0
  a0:=Tryz.isAgg0
  z0:=Tryz.sizeOf0
  v0:=Tryz.zeroValue0
  i0:=by kernel_rfl
  t3:=Tryz.underlying3
  a3:=Tryz.isAgg3
  z3:=Tryz.sizeOf3
  v3:=Tryz.zeroValue3
  i3:=by kernel_rfl
  t4:=Tryz.underlying4
  a4:=Tryz.isAgg4
  z4:=Tryz.sizeOf4
  v4:=Tryz.zeroValue4
  i4:=by kernel_rfl
  t9:=Tryz.underlying9
  a9:=Tryz.isAgg9
  z9:=Tryz.sizeOf9
  v9:=Tryz.zeroValue9
  i9:=by kernel_rfl
  t37:=Tryz.underlying22
  a37:=Tryz.isAgg22
  z37:=Tryz.sizeOf22
  v37:=Tryz.zeroValue22
  i37:=by kernel_rfl
  t127:=Tryz.underlying268
  a127:=Tryz.isAgg268
  z127:=Tryz.sizeOf268
  v127:=Tryz.zeroValue268
  i127:=by kernel_rfl
  t5:=Tryz.underlying5
  a5:=Tryz.isAgg5
  z5:=Tryz.sizeOf5
  v5:=Tryz.zeroValue5
  i5:=by kernel_rfl
theorem zmj (s : ByteArray) (w : World) (hs : s.size<=1099511627776) :
    Calls Tryz.prog 216 #[.string s] w fun e w'=>e = .returned (.string s)/\Below w.heap.size w w':=Any.stringslite_Clone ztw s w (by omega)
theorem zfv (s : ByteArray) (w : World) (hs : s.size<=1099511627776) :
    Calls Tryz.prog 193 #[.string s] w fun e w'=>e = .returned (.string s)/\Below w.heap.size w w':=by
  go_enter Tryz.func193,Tryz.ntmps193
  go_wp2_with fail
  refine (zmj s _ hs).mono ?_;rintro e w1 ⟨rfl,b1⟩
  go_wp2_with fail
  go_ret;exact ⟨rfl,b1⟩
theorem zw5 (x0 x1 x2 x3 x4 x5 x6 x7 x8 z4 z5 : Value) : ((#[x0,x1,x2,x3,x4,x5,x6,x7,x8].setIfInBounds 4 z4).setIfInBounds 5 z5) = #[x0,x1,x2,x3,z4,z5,x6,x7,x8]:=by
  apply Array.toList_inj.1
  simp only [Array.toList_setIfInBounds,List.set_cons_zero,List.set_cons_succ]
theorem zw6 (x0 x1 x2 x3 x4 x5 x6 x7 x8 z0 z1 z2 z3 z4 z5 z6 z7 z8 : Value) : (((((((((#[x0,x1,x2,x3,x4,x5,x6,x7,x8].setIfInBounds 0 z0).setIfInBounds 1 z1).setIfInBounds 2 z2).setIfInBounds 3 z3).setIfInBounds 4 z4).setIfInBounds 5 z5).setIfInBounds 6 z6).setIfInBounds 7 z7).setIfInBounds 8 z8) = #[z0,z1,z2,z3,z4,z5,z6,z7,z8]:=by
  apply Array.toList_inj.1
  simp only [Array.toList_setIfInBounds,List.set_cons_zero,List.set_cons_succ]
theorem zsi {W : World} {b : Nat} {T : TypeId} {x0 x1 x2 x3 x4 x5 x6 x7 x8 : Value} (k : W.heap[b]? = some (.cells #[x0,x1,x2,x3,x4,x5,x6,x7,x8] T (0,0))) (z0 z1 z2 z3 z4 z5 z6 z7 z8 : Value) :
    (((((((((W.setCell ⟨b,0,none⟩ z0).setCell ⟨b,1,none⟩ z1).setCell ⟨b,2,none⟩ z2).setCell ⟨b,3,none⟩ z3).setCell ⟨b,4,none⟩ z4).setCell ⟨b,5,none⟩ z5).setCell ⟨b,6,none⟩ z6).setCell ⟨b,7,none⟩ z7).setCell ⟨b,8,none⟩ z8).heap[b]? = some (.cells #[z0,z1,z2,z3,z4,z5,z6,z7,z8] T (0,0)):=by
  have h:=zab (zab (zab (zab (zab (zab (zab (zab (zab k 0 z0) 1 z1) 2 z2) 3 z3) 4 z4) 5 z5) 6 z6) 7 z7) 8 z8;rw [zw6] at h;exact h
theorem zw7 {w w6 : World} {b0 b1 : Nat} {e0 e1 e2 e3 e6 e7 e8 : Value} {n1 n2 : ByteArray} {z0 z1 z2 z3 z4 z5 z6 z7 z8 : Value} (k0 : w6.heap[b0]? = some (.cells #[e0,e1,e2,e3,.string n1,.string n2,e6,e7,e8] 39 (0,0))) (k1 : w6.heap[b1]? = some (.cells #[z0,z1,z2,z3,z4,z5,z6,z7,z8] 39 (0,0))) (hne : b0 ≠ b1) (h0 : w.heap.size<=b0) (h1 : w.heap.size<=b1) (d : Below w.heap.size w w6) :
    let W:=(w6.setCell ⟨b0,4,none⟩ (.string n1)).setCell ⟨b0,5,none⟩ (.string n2)
    let V:=((((((((W.setCell ⟨b1,0,none⟩ e0).setCell ⟨b1,1,none⟩ e1).setCell ⟨b1,2,none⟩ e2).setCell ⟨b1,3,none⟩ e3).setCell ⟨b1,4,none⟩ (.string n1)).setCell ⟨b1,5,none⟩ (.string n2)).setCell ⟨b1,6,none⟩ e6).setCell ⟨b1,7,none⟩ e7).setCell ⟨b1,8,none⟩ e8
    W.heap[b0]? = some (.cells #[e0,e1,e2,e3,.string n1,.string n2,e6,e7,e8] 39 (0,0))/\W.heap[b1]? = some (.cells #[z0,z1,z2,z3,z4,z5,z6,z7,z8] 39 (0,0))/\V.heap[b1]? = some (.cells #[e0,e1,e2,e3,.string n1,.string n2,e6,e7,e8] 39 (0,0))/\Below w.heap.size w V:=by
  intro W V;have uW : Upto b0 w6 W:=((Upto.refl _ _).setCell ⟨b0,4,none⟩ (.inl rfl) _).setCell ⟨b0,5,none⟩ (.inl rfl) _;have uV : Upto b1 W V:=(((((((((Upto.refl _ _).setCell ⟨b1,0,none⟩ (.inl rfl) _).setCell ⟨b1,1,none⟩ (.inl rfl) _).setCell ⟨b1,2,none⟩ (.inl rfl) _).setCell ⟨b1,3,none⟩ (.inl rfl) _).setCell ⟨b1,4,none⟩ (.inl rfl) _).setCell ⟨b1,5,none⟩ (.inl rfl) _).setCell ⟨b1,6,none⟩ (.inl rfl) _).setCell ⟨b1,7,none⟩ (.inl rfl) _).setCell ⟨b1,8,none⟩ (.inl rfl) _
  have kW : W.heap[b0]? = some (.cells #[e0,e1,e2,e3,.string n1,.string n2,e6,e7,e8] 39 (0,0)):=by
    have h:=zab (zab k0 4 (.string n1)) 5 (.string n2);rw [zw5] at h;exact h
  have kW1 : W.heap[b1]? = some (.cells #[z0,z1,z2,z3,z4,z5,z6,z7,z8] 39 (0,0)):=(uW.block _ (za2 k1) (fun e=>hne e.symm)).trans k1;have l6:=za2 k0;have z6:=uW.size;have d6:=d.size;exact ⟨kW,kW1,zsi kW1 _ _ _ _ _ _ _ _ _,(d.trans (uW.toBelow d6 h0)).trans (uV.toBelow (by omega) h1)⟩
theorem zim (sq cl tg k at_ va ep : Int) (nm ot : ByteArray) (w : World) (hn : nm.size<=1099511627776) (ho : ot.size<=1099511627776) :
    Calls Tryz.prog 173 #[.agg #[.int .i64 sq,.int .i64 cl,.int .i64 tg,.int .i64 k,.string nm,.string ot,.int .i64 at_,.int .i64 va,.int .i64 ep]] w fun e w'=>e = .returned (.agg #[.int .i64 sq,.int .i64 cl,.int .i64 tg,.int .i64 k,.string nm,.string ot,.int .i64 at_,.int .i64 va,.int .i64 ep])/\Below w.heap.size w w':=by
  obtain ⟨W0,hW0,k0,k1,d0,z0⟩:=zc7 w #[.int .i64 sq,.int .i64 cl,.int .i64 tg,.int .i64 k,.string nm,.string ot,.int .i64 at_,.int .i64 va,.int .i64 ep] #[.int .i64 0,.int .i64 0,.int .i64 0,.int .i64 0,.string ⟨#[]⟩,.string ⟨#[]⟩,.int .i64 0,.int .i64 0,.int .i64 0] 39 39;have HW0 : Hid (W0 = _):=hW0;have l0:=za2 k0;have l1:=za2 k1;have S4 : W0.drew.cell? ⟨w.heap.size,4,none⟩=some (.string nm):=za0 k0 4;have S5 : W0.drew.cell? ⟨w.heap.size,5,none⟩=some (.string ot):=za0 k0 5;clear hW0
  go_enter Tryz.func173,Tryz.ntmps173
  go_upto_region 1 with fail
  rw [<- HW0.out];clear HW0
  go_region_law (first
      | (have q:=b5;clear q;go_simp;go_at_call 193;refine (zfv ot _ ho).mono ?_;rintro e w6 ⟨rfl,b6⟩;have k60:=kb0 b6 k50;have k61:=kb0 b6 k51;have U4:=za0 k60 4;have U5:=za0 k60 5;have f4:=za8 k60 4;have f5:=za8 k60 5;dsimp only)
      | (go_simp;go_at_call 193;refine (zfv nm _ hn).mono ?_;rintro e w5 ⟨rfl,b5⟩;have k50:=(b5.block _ (show w.heap.size < W0.heap.size by omega)).trans k0;have k51:=(b5.block _ (show w.heap.size+1 < W0.heap.size by omega)).trans k1;have T4:=za0 k50 4;have T5:=za0 k50 5;dsimp only))
  all_goals
    have HE : Hid _:=zw7 (w:=w) (n1:=nm) (n2:=ot) k60 k61 (by omega) (Nat.le_refl _) (by omega) (za1 (za1 (zar d0) b5) b6);obtain ⟨q0,q1,q2,q3,q4,q5,q6,q7,q8⟩:=cq9 HE.out.1;obtain ⟨g0,g1,g2,g3,g4,g5,g6,g7,g8⟩:=oq9 HE.out.2.1;obtain ⟨p0,p1,p2,p3,p4,p5,p6,p7,p8⟩:=cq9 HE.out.2.1;clear U4 U5 f4 f5 T4 T5 S4 S5 k0 k1 k50 k51 k60 k61 b5 b6
    go_wp2_with fail
    exact bodyPost_ret (v:=.agg #[.int .i64 sq,.int .i64 cl,.int .i64 tg,.int .i64 k,.string nm,.string ot,.int .i64 at_,.int .i64 va,.int .i64 ep]) (by simp [results,Tryz.results173,go_sem,za0 HE.out.2.2.1]) rfl ⟨rfl,HE.out.2.2.2⟩
def zoa (a b : ByteArray) : Int:=Lib.compareBytes a.data.toList b.data.toList
theorem cmp_less : ∀ (x y : List UInt8),Lib.compareBytes x y < 0 ↔ Op.bytesLess x y=true:=by
  intro x
  induction x with
  | nil =>
    intro y
    cases y with
    | nil=>simp [Lib.compareBytes,Op.bytesLess]
    | cons b u=>simp [Lib.compareBytes,Op.bytesLess]
  | cons a t ih =>
    intro y
    cases y with
    | nil=>simp [Lib.compareBytes,Op.bytesLess]
    | cons b u =>
      simp only [Lib.compareBytes,Op.bytesLess,Bool.or_eq_true,decide_eq_true_eq,Bool.and_eq_true,beq_iff_eq];by_cases h1 : a < b
      · simp [h1]
      · by_cases h2 : b < a
        · have hne : a ≠ b:=fun e=>by subst e;exact UInt8.lt_irrefl a h2
          simp [h1,h2,hne]
        · have he : a=b:=UInt8.le_antisymm (UInt8.not_lt.1 h2) (UInt8.not_lt.1 h1)
          subst he;simp [ih u]
theorem zps (a b : ByteArray) : zoa a b < 0 ↔ ltB a b=true:=by
  rw [zoa,cmp_less,ltB,ByteArray.toList_eq,ByteArray.toList_eq]
def zda (bks : List Bk) (b : Bk) : List Bk:=bks.take (zbp (bks.map Bk.pb) b.nm) ++ [b] ++ bks.drop (zbp (bks.map Bk.pb) b.nm)
theorem zsj (bks : List Bk) (b : Bk) : (zda bks b).map Bk.pb=insertP (bks.map Bk.pb) b.pb:=by
  simp only [zda,insertP,List.map_append,List.map_take,List.map_drop,List.map_cons,List.map_nil]
  rfl
def stepB (bks : List Bk) (b : Bk) (j : Nat) : List Bk:=bks.take j ++ [b] ++ bks.drop j
theorem zhh (bks : List Bk) (b : Bk) (j : Nat) (h : j<=bks.length) : (stepB bks b j).length=bks.length+1:=by
  simp [stepB];omega
theorem zpt (bks : List Bk) (b : Bk) (j : Nat) (h : j<=bks.length) : (stepB bks b j)[j]? = some b:=by
  have hl : (bks.take j).length=j:=by rw [List.length_take];omega
  rw [stepB,List.append_assoc,List.getElem?_append_right (by omega),hl,Nat.sub_self];rfl
theorem zeo (bks : List Bk) (b : Bk) (j i : Nat) (h : i < j) (hj : j<=bks.length) : (stepB bks b j)[i]? = bks[i]?:=by
  rw [stepB,List.append_assoc,List.getElem?_append_left (by rw [List.length_take];omega),List.getElem?_take,if_pos h]
theorem zrs (bks : List Bk) (b : Bk) (j : Nat) (h : j < bks.length) : ((stepB bks b (j+1)).set (j+1) bks[j]).set j b=stepB bks b j/\((stepB bks b (j+1)).set j b).set (j+1) bks[j]=stepB bks b j:=by
  have hl : (bks.take (j+1)).length=j+1:=by rw [List.length_take];omega
  have hl0 : (bks.take j).length=j:=by rw [List.length_take];omega
  have e : bks.take (j+1)=bks.take j ++ [bks[j]]:=List.take_succ_eq_append_getElem h;have e2 : bks.drop j=bks[j] :: bks.drop (j+1):=List.drop_eq_getElem_cons h
  have key : ((stepB bks b (j+1)).set (j+1) bks[j]).set j b=stepB bks b j:=by
    rw [stepB,List.append_assoc,List.set_append_right _ _ (by omega),hl,Nat.sub_self,List.singleton_append,List.set_cons_zero,e,List.append_assoc,List.set_append_right _ _ (by omega),hl0,Nat.sub_self,List.singleton_append,List.set_cons_zero,stepB,e2,List.append_assoc]
    rfl
  exact ⟨key,by rw [List.set_comm _ _ (by omega)];exact key⟩
theorem zmk (a b : ByteArray) (w : World) :
    Calls Tryz.prog 298 #[.string a,.string b] w fun e w'=>e = .returned (.int .i64 (zoa a b))/\w'=w:=by
  go_enter Tryz.func298,Tryz.ntmps298
  go_wp2
  rw [run_callFunc_extern Tryz.func304 (by kernel_rfl) (by kernel_rfl) (by kernel_rfl) (e:=Extern.BytealgCompare.compare) (by kernel_rfl),Lib.run_compareString];simp only [Result.andThen];rw [Oper.upon_value]
  go_wp2
  go_ret;exact ⟨rfl,rfl⟩
theorem zpu (a b : ByteArray) (w : World) :
    Calls Tryz.prog 286 #[.string a,.string b] w fun e w'=>e = .returned (.int .i64 (zoa a b))/\w'=w:=by
  go_enter Tryz.func286,Tryz.ntmps286
  go_wp2_with (go_at_call 298;refine (zmk _ _ _).mono ?_;rintro e w' ⟨rfl,rfl⟩)
  go_ret;exact ⟨rfl,rfl⟩
theorem zls (n1 : ByteArray) (s1 : Int) (o1 : Option Addr) (l1 c1 : Nat) (f1 : Bool) (e1 : Int) (n2 : ByteArray) (s2 : Int) (o2 : Option Addr) (l2 c2 : Nat) (f2 : Bool) (e2 : Int) (w : World) :
    Calls Tryz.prog 275 #[.agg #[.string n1,.int .i64 s1,.slice o1 l1 c1,.bool f1,.int .i64 e1],.agg #[.string n2,.int .i64 s2,.slice o2 l2 c2,.bool f2,.int .i64 e2]] w fun e w'=>e = .returned (.int .i64 (zoa n1 n2))/\Below w.heap.size w w':=by
  go_enter Tryz.func275,Tryz.ntmps275
  go_wp2_with (go_at_call 286;refine (zpu _ _ _).mono ?_;rintro e w' ⟨rfl,rfl⟩)
  go_ret;exact ⟨rfl,za3 (za3 (Below.refl _ _))⟩
theorem ztx (n : Nat) (h : n<=7) (w : World) :
    Calls Tryz.prog 297 #[.int .u64 n] w fun e w'=>∃ r : Int,e = .returned (.int .i64 r)/\w'=w:=by
  have hn : n=0\/n=1\/n=2\/n=3\/n=4\/n=5\/n=6\/n=7:=by omega
  rcases hn with rfl | rfl | rfl | rfl | rfl | rfl | rfl | rfl
  all_goals
    go_enter Tryz.func297,Tryz.ntmps297
    go_wp2
    go_ret;exact ⟨_,rfl,rfl⟩
theorem zxt (n : Nat) (h : n<=7) (w : World) :
    Calls Tryz.prog 285 #[.int .u64 n] w fun e w'=>∃ r : Int,e = .returned (.int .i64 r)/\w'=w:=by
  go_enter Tryz.func285,Tryz.ntmps285
  go_wp2_with fail
  refine (ztx n h _).mono ?_;rintro e w' ⟨r,rfl,rfl⟩
  go_wp2_with fail
  go_ret;exact ⟨r,rfl,rfl⟩
theorem zrt (nm : ByteArray) (sz : Int) (m : Value) (fx : Bool) (ep : Int) (n : ByteArray) (c : Nat) (w : World) (hm : ∃ o k cap,m = .slice o k cap) (hc : c < w.heap.size) (hn : w.cell? ⟨c,0,none⟩=some (.string n)) :
    Calls Tryz.prog 272 #[.agg #[.string nm,.int .i64 sz,m,.bool fx,.int .i64 ep],.pointer (some ⟨c,0,none⟩)] w fun e w'=>e = .returned (.bool (decide (nm=n)))/\Below w.heap.size w w':=by
  obtain ⟨o,k,cap,rfl⟩:=hm;obtain ⟨W0,hW0,k0,d0,z0⟩:=zb4 w #[.string nm,.int .i64 sz,.slice o k cap,.bool fx,.int .i64 ep] 117;have HW0 : Hid (W0 = _):=hW0;have p0:=za0 k0 0;have c0:=(d0.cell (p:=⟨c,0,none⟩) hc).trans hn;rw [hW0] at p0 c0;have hq:=zkk nm n;clear hW0 k0
  go_enter Tryz.func272,Tryz.ntmps272
  go_wp2_with fail
  go_ret;exact ⟨rfl,by rw [<- HW0.out];exact d0⟩
theorem zml (v : Value) (bs : List Bk) (n : ByteArray) (c : Nat) (w : World) (hms : ∀ b ∈ bs,∃ o k cap,b.m = .slice o k cap) (r : ReadsR 5 bookC w.heap.size w v bs) (hc : c < w.heap.size) (hn : w.cell? ⟨c,0,none⟩=some (.string n)) :
    Calls Tryz.prog 254 #[v,.func (.func 272) #[] #[.pointer (some ⟨c,0,none⟩)]] w fun e w'=>e = .returned (.int .i64 (zag bs n))/\Below w.heap.size w w':=by
  obtain ⟨o,cap,rfl,hm,hcs,-⟩:=r;have HC : Hid _:=hcs;have HM : Hid _:=hms;unfold maxLen at hm;clear hcs hms
  go_enter Tryz.func254,Tryz.ntmps254
  go_wp2_with fail
  go_loopw [8] (fun i wr=>∃ k : Nat,k<=bs.length/\i = .int .i64 k/\zag bs n=zbe n ((bs.map Bk.nm).drop k) k/\Below w.heap.size w wr) (fun i _=>bs.length - (intOf i).toNat)
  case atStart=>exact ⟨0,Nat.zero_le _,rfl,rfl,Below.refl _ _⟩
  case round =>
    obtain ⟨k,hk,rfl,hf,hb⟩:=hrel;by_cases hlt : k < bs.length
    · obtain ⟨g,off,rfl,hg,hx⟩:=HC.out k bs[k] (List.getElem?_eq_getElem hlt)
      rw [zsb bs n k hlt] at hf;have HF : Hid _:=hf;have a0:=(hb.cell (p:=⟨g,off+k * 5,none⟩) hg).trans (hx 0 _ rfl);have a1:=(hb.cell (p:=⟨g,off+k * 5+1,none⟩) hg).trans (hx 1 _ rfl);have a2:=(hb.cell (p:=⟨g,off+k * 5+2,none⟩) hg).trans (hx 2 _ rfl);have a3:=(hb.cell (p:=⟨g,off+k * 5+3,none⟩) hg).trans (hx 3 _ rfl);have a4:=(hb.cell (p:=⟨g,off+k * 5+4,none⟩) hg).trans (hx 4 _ rfl);have hsl:=HM.out bs[k] (List.getElem_mem hlt);have cn:=(hb.cell (p:=⟨c,0,none⟩) hc).trans hn;have hcl:=Nat.lt_of_lt_of_le hc hb.size;clear hf HC HM hx;generalize bs[k]=x at a0 a1 a2 a3 a4 HF hsl;obtain ⟨nm,sz,m,rs,fx,ep⟩:=x;simp only at a0 a1 a2 a3 a4 HF hsl;obtain ⟨o',k',cap',rfl⟩:=hsl
      go_wp2_with (go_at_call 272;refine (zrt nm sz _ fx ep n c _ ⟨_,_,_,rfl⟩ hcl cn).mono ?_)
      rintro e w1 ⟨rfl,b1⟩;replace hb:=za1 hb b1;clear a0 a1 a2 a3 a4 b1 cn hcl;by_cases hx : nm=n
      · have HV : Hid (zag bs n=k):=by have:=HF.out;rwa [if_pos hx] at this
        rw [decide_eq_true hx];clear HF hx
        go_wp2_with fail
        go_ret;exact ⟨zam HV.out.symm,hb⟩
      · have HV : Hid (zag bs n=zbe n ((bs.map Bk.nm).drop (k+1)) (k+1)):=by have:=HF.out;rwa [if_neg hx] at this
        rw [decide_eq_false hx];clear HF hx
        go_wp2_with fail
        go_roundw
        case rel=>exact ⟨k+1,by omega,by go_num,HV.out,hb⟩
        case measure=>simp [intOf];omega
    · rw [zos bs n k hlt] at hf
      have HF : Hid _:=hf;clear hf HC
      go_wp2_with fail
      go_ret;exact ⟨zam HF.out.symm,hb⟩
theorem zpv (n : ByteArray) (w : World) :
    Calls Tryz.prog 255 #[.string n] w fun e w'=>e = .returned (.func (.func 272) #[] #[.pointer (some ⟨w.heap.size,0,none⟩)])/\w'=w.alloc (.cells #[.string n] 9):=by
  have hmf : ∀ (fn : Fn) (first cap : Array Value) (w : World),(Instr.makeFunc fn first cap).run Tryz.prog w = .ok (.func fn first cap) w:=fun _ _ _ _=>rfl
  go_enter Tryz.func255,Tryz.ntmps255
  go_wp2_with fail
  go_ret;exact ⟨rfl,rfl⟩
theorem zal (v : Value) (bs : List Bk) (n : ByteArray) (w : World) (hms : ∀ b ∈ bs,∃ o k cap,b.m = .slice o k cap) (r : ReadsR 5 bookC w.heap.size w v bs) :
    Calls Tryz.prog 227 #[v,.string n] w fun e w'=>e = .returned (.int .i64 (zag bs n))/\Below w.heap.size w w':=by
  obtain ⟨W0,hW0,k0,d0,z0⟩:=zb4 w #[.string n] 9;have r0:=(r.below d0).mono d0.size;have p0:=za0 k0 0;have hlt:=za2 k0;have HM : Hid _:=hms;clear k0 r hms
  go_enter Tryz.func227,Tryz.ntmps227
  go_wp2_with fail
  refine (zpv n _).mono ?_;rintro e w1 ⟨rfl,h1⟩;rw [<- hW0] at h1;subst h1;clear hW0
  go_wp2_with fail
  refine (zml v bs n _ _ HM.out r0 hlt p0).mono ?_;rintro e w2 ⟨rfl,b2⟩
  go_wp2_with fail
  go_ret;exact ⟨rfl,za1 d0 b2⟩
end Go.Proofs.YtfkkapdofjhgpaaGreatDoor
