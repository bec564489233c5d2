import Derived.Test.YtfkkapdofjhgpaaGreatDoorM04
import Derived.Test.YtfkkapdofjhgpaaGreatDoorM06
import Derived.Test.YtfkkapdofjhgpaaGreatDoorM09
import Derived.Test.YtfkkapdofjhgpaaGreatDoorM17
import Derived.Test.YtfkkapdofjhgpaaGreatDoorM22
import Derived.Test.YtfkkapdofjhgpaaGreatDoorM23
import Derived.Test.YtfkkapdofjhgpaaGreatDoorM25
import Derived.Test.YtfkkapdofjhgpaaGreatDoorM29
import Derived.Test.YtfkkapdofjhgpaaGreatDoorM38
import Derived.Test.YtfkkapdofjhgpaaGreatDoorM39
set_option maxHeartbeats 12800000
namespace Go.Proofs.YtfkkapdofjhgpaaGreatDoor
open Go.RowKit
set_option linter.unusedVariables false
set_option maxRecDepth 100000
set_option linter.unusedSimpArgs false
theorem Tryz.infoEntG : (Tryz.prog.info? 39).map (fun i=>(i.zero,i.size,i.bytes))=some (some (.agg #[.int .i64 0,.int .i64 0,.int .i64 0,.int .i64 0,.string ByteArray.empty,.string ByteArray.empty,.int .i64 0,.int .i64 0,.int .i64 0]),9,88):=by kernel_rfl
theorem zyb (e : Ent) : ∀ u ∈ zbs e,u.oneCell'=true:=by
  intro u hu;simp only [zbs,List.mem_cons,List.not_mem_nil,or_false] at hu;rcases hu with rfl | rfl | rfl | rfl | rfl | rfl | rfl | rfl | rfl <;> rfl
theorem zuo (W : World) (e : Ent) (t : TypeId) : ∀ (j : Nat) (u : Value),(zbs e)[j]? = some u->(W.alloc (.cells #[.int .i64 e.sq,.int .i64 e.cl,.int .i64 e.tg,.int .i64 e.o.k,.string e.o.nm,.string e.o.ot,.int .i64 e.o.at_,.int .i64 e.o.va,.int .i64 e.o.ep] t)).cell? ((⟨W.heap.size,0,none⟩ : Addr).add j)=some u:=by
  intro j u hj;have hk:=heap_alloc_new W (.cells #[.int .i64 e.sq,.int .i64 e.cl,.int .i64 e.tg,.int .i64 e.o.k,.string e.o.nm,.string e.o.ot,.int .i64 e.o.at_,.int .i64 e.o.va,.int .i64 e.o.ep] t);rw [zgj,za0 hk]
  simpa [zbs] using hj
def KeepAt (T : Nat->Prop) (W X : World) : Prop:=∀ k,T k->X.heap[k]? = W.heap[k]?
theorem KeepAt.set {T : Nat->Prop} {W X : World} {b : Nat} (h : KeepAt T W X) (hb : ¬ T b) (i : Nat) (v : Value) : KeepAt T W (X.setCell ⟨b,i,none⟩ v):=fun k hk=>(Below.heap_setCell X ⟨b,i,none⟩ v k (fun e=>hb ((show k=b from e) ▸ hk))).trans (h k hk)
theorem zqj {S : Nat->Prop} {a w w' : World} {row : Option Nat} (h : Only S a w) (hg : w.grownBy w' row) (hr : ∀ k,row=some k->S k) : Only S a w':=by
  have hb : Below 0 w w':=(Below.refl 0 w).grown hg (Nat.zero_le _) (fun _ _=>Nat.zero_le _)
  exact ⟨hb.os.trans h.os,hb.tape.trans h.tape,hb.output.trans h.output,Nat.le_trans h.size hb.size,fun i hi hc=>by
    refine (hg.block i (Nat.lt_of_lt_of_le hi h.size) ?_).trans (h.block i hi hc);intro e
    exact hc (hr i e.symm)⟩
theorem zis {w w' : World} {c : Nat} (u : Upto c w w') : Only (fun k=>k=c) w w':=⟨u.os,u.tape,u.output,u.size,fun k hk hn=>u.block k hk hn⟩
theorem Only.upHi {S : Nat->Prop} {a w w' : World} {c : Nat} (h : Only S a w) (u : Upto c w w') (hc : a.heap.size<=c) : Only S a w' :=
  ⟨u.os.trans h.os,u.tape.trans h.tape,u.output.trans h.output,Nat.le_trans h.size u.size,fun k hk hn=>(u.block k (Nat.lt_of_lt_of_le hk h.size) (by omega)).trans (h.block k hk hn)⟩
theorem zup {w : World} {base : Nat} {v : Value} {l : List Ent} {e : Ent} (h : w.ownsRow base 39 9 v (l.length+1) (l.flatMap zbs ++ zbs e)) : w.ownsRow base 39 9 v (l ++ [e]).length ((l ++ [e]).flatMap zbs):=by
  have e1 : (l ++ [e]).flatMap zbs=l.flatMap zbs ++ zbs e:=by simp
  have e2 : (l ++ [e]).length=l.length+1:=by simp
  rw [e1,e2];exact h
theorem zwm (x0 x1 x2 x3 x4 x5 x6 x7 x8 z2 z4 z5 z6 z7 z8 : Value) : ((((((#[x0,x1,x2,x3,x4,x5,x6,x7,x8].setIfInBounds 2 z2).setIfInBounds 4 z4).setIfInBounds 5 z5).setIfInBounds 6 z6).setIfInBounds 7 z7).setIfInBounds 8 z8) = #[x0,x1,z2,x3,z4,z5,z6,z7,z8]:=by
  apply Array.toList_inj.1
  simp only [Array.toList_setIfInBounds,List.set_cons_zero,List.set_cons_succ]
theorem zuq {w6 W : World} {B R : Nat} {x0 x1 x2 x3 x4 x5 x6 x7 x8 : Value} {zs : Array Value} (kB : w6.heap[B]? = some (.cells #[x0,x1,x2,x3,x4,x5,x6,x7,x8] 35 (0,0))) (kR : w6.heap[R]? = some (.cells zs 35 (0,0))) (hne : B ≠ R) (v2 v4 v5 v6 v7 v8 : Value) (hW : W=(((((w6.setCell ⟨B,2,none⟩ v2).setCell ⟨B,4,none⟩ v4).setCell ⟨B,5,none⟩ v5).setCell ⟨B,6,none⟩ v6).setCell ⟨B,7,none⟩ v7).setCell ⟨B,8,none⟩ v8) :
    W.heap[B]? = some (.cells #[x0,x1,v2,x3,v4,v5,v6,v7,v8] 35 (0,0))/\W.heap[R]? = some (.cells zs 35 (0,0))/\Upto B w6 W:=by
  subst hW;have uW : Upto B w6 ((((((w6.setCell ⟨B,2,none⟩ v2).setCell ⟨B,4,none⟩ v4).setCell ⟨B,5,none⟩ v5).setCell ⟨B,6,none⟩ v6).setCell ⟨B,7,none⟩ v7).setCell ⟨B,8,none⟩ v8):=((((((Upto.refl _ _).setCell ⟨B,2,none⟩ (.inl rfl) _).setCell ⟨B,4,none⟩ (.inl rfl) _).setCell ⟨B,5,none⟩ (.inl rfl) _).setCell ⟨B,6,none⟩ (.inl rfl) _).setCell ⟨B,7,none⟩ (.inl rfl) _).setCell ⟨B,8,none⟩ (.inl rfl) _;have kW:=zab (zab (zab (zab (zab (zab kB 2 v2) 4 v4) 5 v5) 6 v6) 7 v7) 8 v8;rw [zwm] at kW;exact ⟨kW,(uW.block _ (za2 kR) (fun e=>hne e.symm)).trans kR,uW⟩
theorem zhi {W V : World} {R : Nat} {z0 z1 z2 z3 z4 z5 z6 z7 z8 : Value} (kR : W.heap[R]? = some (.cells #[z0,z1,z2,z3,z4,z5,z6,z7,z8] 35 (0,0))) (x0 x1 v2 x3 v4 v5 v6 v7 v8 : Value)
    (hV : V=((((((((W.setCell ⟨R,0,none⟩ x0).setCell ⟨R,1,none⟩ x1).setCell ⟨R,2,none⟩ v2).setCell ⟨R,3,none⟩ x3).setCell ⟨R,4,none⟩ v4).setCell ⟨R,5,none⟩ v5).setCell ⟨R,6,none⟩ v6).setCell ⟨R,7,none⟩ v7).setCell ⟨R,8,none⟩ v8) :
    V.heap[R]? = some (.cells #[x0,x1,v2,x3,v4,v5,v6,v7,v8] 35 (0,0))/\Upto R W V:=by
  subst hV;have uV : Upto R W _:=(((((((((Upto.refl R W).setCell ⟨R,0,none⟩ (.inl rfl) x0).setCell ⟨R,1,none⟩ (.inl rfl) x1).setCell ⟨R,2,none⟩ (.inl rfl) v2).setCell ⟨R,3,none⟩ (.inl rfl) x3).setCell ⟨R,4,none⟩ (.inl rfl) v4).setCell ⟨R,5,none⟩ (.inl rfl) v5).setCell ⟨R,6,none⟩ (.inl rfl) v6).setCell ⟨R,7,none⟩ (.inl rfl) v7).setCell ⟨R,8,none⟩ (.inl rfl) v8;exact ⟨zsi kR _ _ _ _ _ _ _ _ _,uV⟩
theorem zur (up : Bool) (pg ak : Int) (vl v1 v2 vb t1 t2 : Value) (l : List Ent) (bks : List Bk) (x : Rp) (e : Ent) (base : Nat) (w : World) (ad : Nat->Addr) (hv : VarsS w ad) (hl : l.length<=120) (hx : RpInv x) (hbe : bks.map Bk.pb=x.s.bs) (hst : zee x.ts x.rs e.cl e.tg (doOp x.s e.o).2=(((rpStep x e).ts,(rpStep x e).rs),true)) (he : zlr e) (hnb : ∀ b ∈ bks,b.nm.size<=maxLen) (hf : ∀ b ∈ bks,zb9 b.rs) (hn1 : e.o.nm.size<=1099511627776) (hot1 : e.o.ot.size<=1099511627776) (hbase : base<=w.heap.size)
    (own : w.ownsRow base 39 9 vl l.length (l.flatMap zbs)) (rs : RS w.heap.size w v1 v2 vb x.s.cs x.s.ps bks) (rm : RM w.heap.size w t1 t2 x.ts x.rs) :
    Calls Tryz.prog 126 #[.agg #[.bool up,.int .i64 pg,vl,.int .i64 ak,v1,v2,vb,t1,t2],.agg #[.int .i64 e.sq,.int .i64 e.cl,.int .i64 e.tg,.int .i64 e.o.k,.string e.o.nm,.string e.o.ot,.int .i64 e.o.at_,.int .i64 e.o.va,.int .i64 e.o.ep]] w fun en w'=>∃ (vl' u1 u2 ub m1 m2 : Value) (ms : List Bk),en = .returned (.agg #[.bool up,.int .i64 pg,vl',.int .i64 ak,u1,u2,ub,m1,m2])/\w'.ownsRow base 39 9 vl' (l ++ [e]).length ((l ++ [e]).flatMap zbs)/\OwnS w.heap.size w' u1 u2 ub (rpStep x e).s.cs (rpStep x e).s.ps ms/\ms.map Bk.pb=(rpStep x e).s.bs/\OwnM w.heap.size w' m1 m2 (rpStep x e).ts (rpStep x e).rs/\(∀ g,(u1.ownBlock=some g\/u2.ownBlock=some g)->m1.ownBlock ≠ some g)/\Only (fun k=>vl.ownBlock=some k) w w':=by
  obtain ⟨⟨hn,hot⟩,fsq,fcl,ftg,fk,fa,fv,fe⟩:=he;obtain ⟨o1,k1,o2,k2,ob,kb,rfl,rfl,rfl⟩:=rs.forms;obtain ⟨p1,c1,p2,c2,rfl,rfl⟩:=rm.forms;obtain ⟨ol,cl,rfl⟩:=za4 own;obtain ⟨W0,hW0,k0,k1',kR,d0,z0⟩:=zg0 w #[.bool up,.int .i64 pg,.slice ol l.length cl,.int .i64 ak,.slice o1 x.s.cs.length k1,.slice o2 x.s.ps.length k2,.slice ob bks.length kb,.slice p1 x.ts.length c1,.slice p2 x.rs.length c2] #[.int .i64 e.sq,.int .i64 e.cl,.int .i64 e.tg,.int .i64 e.o.k,.string e.o.nm,.string e.o.ot,.int .i64 e.o.at_,.int .i64 e.o.va,.int .i64 e.o.ep] #[.bool false,.int .i64 0,.slice none 0 0,.int .i64 0,.slice none 0 0,.slice none 0 0,.slice none 0 0,.slice none 0 0,.slice none 0 0] 35 39 35;have HW0 : Hid (W0 = _):=hW0;have rs0:=(rs.below d0).mono d0.size;have rm0:=(rm.below d0).mono d0.size;have hv0:=hv.below d0;have own0:=za9 own d0;have hG : Hid (∀ g,(Value.slice ol l.length cl).ownBlock=some g->g < w.heap.size):=fun g hg=>(own.lt g hg).2
  have HSH : Hid (zgg ⟨x.s.cs,x.s.ps,bks.map Bk.pb⟩ ⟨e.o.k,e.o.nm,e.o.ot,e.o.at_,e.o.va,e.o.ep⟩=doOp x.s e.o):=by
    rw [Hid,hbe];exact zj7 ((zgn _).2 hx.s)
  have HST : Hid _:=hst;have a4:=za0 k0 4;have a5:=za0 k0 5;have a6:=za0 k0 6;have e3:=za0 k1' 3;have e4:=za0 k1' 4;have e5:=za0 k1' 5;have e6:=za0 k1' 6;have e7:=za0 k1' 7;have e8:=za0 k1' 8;clear hW0 rs rm own hst
  go_enter Tryz.func126,Tryz.ntmps126
  go_upto_region 1 with fail
  rw [<- HW0.out];clear HW0;have hdid:=zqi (.slice o1 x.s.cs.length k1) (.slice o2 x.s.ps.length k2) (.slice ob bks.length kb) x.s.cs x.s.ps bks e.o.k e.o.nm e.o.ot e.o.at_ e.o.va e.o.ep W0 ad hv0 hnb hf hn hot fk fa fv fe rs0;rw [HSH.out] at hdid;generalize hD : doOp x.s e.o=D at *;obtain ⟨D1,c,q⟩:=D
  dsimp only at hdid
  go_upto_region 2 with (go_at_call 171;refine hdid.mono ?_;rintro en w1 ⟨u1,u2,ub,ms,rfl,os,hms,b1⟩;obtain ⟨x1,j1,x2,j2,x3,j3,rfl,rfl,rfl⟩:=os.forms)
  obtain ⟨W2,hW2,kS,kP,d2,z2⟩:=zc7 w1 #[.slice x1 D1.cs.length j1,.slice x2 D1.ps.length j2,.slice x3 ms.length j3] #[.int .i64 c,.int .i64 q] 30 43;have HW2 : Hid (W2 = _):=hW2;have B02:=za1 b1 d2;have rm2:=(rm0.below B02).mono B02.size;have kB2:=kb0 B02 k0;have kE2:=(B02.block _ (za2 k1')).trans k1';have kR2:=kb0 B02 kR;have own2:=za9 own0 B02;have os2:=os.below d2;have hnot:=zmz (.slice p1 x.ts.length c1) (.slice p2 x.rs.length c2) x.ts x.rs e.cl e.tg c q W2 rm2;rw [HST.out] at hnot
  dsimp only at hnot
  have a7:=za0 kB2 7;have a8:=za0 kB2 8;have g1:=za0 kE2 1;have g2:=za0 kE2 2;obtain ⟨s0,s1⟩:=cq2 kP;clear a4 a5 a6 e3 e4 e5 e6 e7 e8 hdid hW2;rw [<- HW2.out];clear HW2
  go_upto_region 3 with (go_at_call 172;refine hnot.mono ?_;rintro en w3 ⟨m1,m2,rfl,om,b3⟩;obtain ⟨q1,r1,q2,r2,rfl,rfl⟩:=om.forms)
  have HAM : Hid (∀ g,((Value.slice x1 D1.cs.length j1).ownBlock=some g\/(Value.slice x2 D1.ps.length j2).ownBlock=some g)->(Value.slice q1 (rpStep x e).ts.length r1).ownBlock ≠ some g):=fun g h1 h2=>by
    have a:=(os.p.span g h1).2;have b:=(om.span g (.inl h2)).1
    omega
  obtain ⟨W4,hW4,kM,d4,z4⟩:=zb4 w3 #[.slice q1 (rpStep x e).ts.length r1,.slice q2 (rpStep x e).rs.length r2] 33;have HW4 : Hid (W4 = _):=hW4;have B24:=za1 b3 d4;have kB:=kb0 B24 kB2;have kE:=kb0 B24 kE2;have kR4:=kb0 B24 kR2;have kS4:=kb0 B24 kS;have own4:=za9 own2 B24;have os4:=os2.below B24;have om4:=om.below d4;have b04:=za1 (za1 d0 B02) B24;clear hW4 hnot a7 a8 g1 g2 s0 s1;rw [<- HW4.out];clear HW4
  go_upto_region 4 with (go_at_call 119;refine (zid _).mono ?_;rintro en W5 ⟨rfl,rfl⟩)
  obtain ⟨i0,hi,hz0,hz1,hz2⟩:=info_parts Tryz.infoEntG;have zb:=b04.size;have l1 : w.heap.size < W5.heap.size:=za2 kB;have l2 : w.heap.size+1 < W5.heap.size:=za2 kE;have l3 : w.heap.size+1+1 < W5.heap.size:=za2 kR4;have l4 : w1.heap.size < W5.heap.size:=za2 kS4;have l5 : w3.heap.size < W5.heap.size:=za2 kM;have y1 : w.heap.size+1+1 < w1.heap.size:=by have:=b1.size;omega
  have y3 : w1.heap.size < w3.heap.size:=by have:=b3.size;omega
  have A1 : Below W5.heap.size W5 W5.drew:=zar (Below.refl _ _)
  have HKeep : ∀ X,KeepAt (fun k=>k=w.heap.size+1\/k=w1.heap.size\/k=w3.heap.size) W5 X->(X.cell? ⟨w.heap.size+1,0,none⟩=some (.int .i64 e.sq)/\X.cell? ⟨w.heap.size+1,1,none⟩=some (.int .i64 e.cl)/\X.cell? ⟨w.heap.size+1,2,none⟩=some (.int .i64 e.tg)/\X.cell? ⟨w.heap.size+1,3,none⟩=some (.int .i64 e.o.k)/\X.cell? ⟨w.heap.size+1,4,none⟩=some (.string e.o.nm)/\X.cell? ⟨w.heap.size+1,5,none⟩=some (.string e.o.ot)/\X.cell? ⟨w.heap.size+1,6,none⟩=some (.int .i64 e.o.at_)/\X.cell? ⟨w.heap.size+1,7,none⟩=some (.int .i64 e.o.va)/\X.cell? ⟨w.heap.size+1,8,none⟩=some (.int .i64 e.o.ep)/\X.cell? ⟨w1.heap.size,0,none⟩=some (.slice x1 D1.cs.length j1)/\X.cell? ⟨w1.heap.size,1,none⟩=some (.slice x2 D1.ps.length j2)/\X.cell? ⟨w1.heap.size,2,none⟩=some (.slice x3 ms.length j3)/\X.cell? ⟨w3.heap.size,0,none⟩=some (.slice q1 (rpStep x e).ts.length r1)/\X.cell? ⟨w3.heap.size,1,none⟩=some (.slice q2 (rpStep x e).rs.length r2)):=fun X hb=>by
    have e1:=(hb _ (.inl rfl)).trans kE;have e2:=(hb _ (.inr (.inl rfl))).trans kS4;have e3:=(hb _ (.inr (.inr rfl))).trans kM;exact ⟨za0 e1 0,za0 e1 1,za0 e1 2,za0 e1 3,za0 e1 4,za0 e1 5,za0 e1 6,za0 e1 7,za0 e1 8,za0 e2 0,za0 e2 1,za0 e2 2,za0 e3 0,za0 e3 1⟩
  have HKB : ∀ X,Below W5.heap.size W5 X->KeepAt (fun k=>k=w.heap.size+1\/k=w1.heap.size\/k=w3.heap.size) W5 X:=fun X hb k hk=>hb.block k (by rcases hk with rfl | rfl | rfl <;> assumption)
  have HAB : Hid (∀ (w6 w7 : World) (o : Obj) (r : Option Nat),Below W5.heap.size W5 w6->(w6.alloc o).grownBy w7 (Value.slice ol l.length cl).ownBlock->∀ k,w.heap.size<=k->k < W5.heap.size->w7.heap[k]? = W5.heap[k]?):=fun w6 w7 o r b g k h1 h2=>by
    have bo : Below W5.heap.size W5 (w6.alloc o):=za3 b;exact (g.block k (by have:=bo.size;omega) (fun e=>by have:=hG.out k e.symm;omega)).trans (bo.block k h2)
  have HAP : Hid (∀ (w6 w7 : World) (o : Obj) (r : Option Nat),Below W5.heap.size W5 w6->(w6.alloc o).grownBy w7 (Value.slice ol l.length cl).ownBlock->KeepAt (fun k=>k=w.heap.size+1\/k=w1.heap.size\/k=w3.heap.size) W5 w7):=fun w6 w7 o r b g k hk=>HAB.out w6 w7 o r b g k (by rcases hk with rfl | rfl | rfl <;> omega) (by rcases hk with rfl | rfl | rfl <;> assumption)
  have S0 : Hid _:=HKeep _ (HKB _ A1);have P5 : W5.drew.cell? ⟨w.heap.size,2,none⟩=some (.slice ol l.length cl):=za0 kB 2
  have hnB : ¬ (fun k=>k=w.heap.size+1\/k=w1.heap.size\/k=w3.heap.size) w.heap.size:=by
    rintro (q | q | q) <;> omega
  have HOW : Hid _:=own4;refine wp_region_held_drew (S:=(fun X=>X.cell? ⟨w.heap.size+1,0,none⟩=some (.int .i64 e.sq)/\X.cell? ⟨w.heap.size+1,1,none⟩=some (.int .i64 e.cl)/\X.cell? ⟨w.heap.size+1,2,none⟩=some (.int .i64 e.tg)/\X.cell? ⟨w.heap.size+1,3,none⟩=some (.int .i64 e.o.k)/\X.cell? ⟨w.heap.size+1,4,none⟩=some (.string e.o.nm)/\X.cell? ⟨w.heap.size+1,5,none⟩=some (.string e.o.ot)/\X.cell? ⟨w.heap.size+1,6,none⟩=some (.int .i64 e.o.at_)/\X.cell? ⟨w.heap.size+1,7,none⟩=some (.int .i64 e.o.va)/\X.cell? ⟨w.heap.size+1,8,none⟩=some (.int .i64 e.o.ep)/\X.cell? ⟨w1.heap.size,0,none⟩=some (.slice x1 D1.cs.length j1)/\X.cell? ⟨w1.heap.size,1,none⟩=some (.slice x2 D1.ps.length j2)/\X.cell? ⟨w1.heap.size,2,none⟩=some (.slice x3 ms.length j3)/\X.cell? ⟨w3.heap.size,0,none⟩=some (.slice q1 (rpStep x e).ts.length r1)/\X.cell? ⟨w3.heap.size,1,none⟩=some (.slice q2 (rpStep x e).rs.length r2))) (by kernel_rfl) S0.out (fun hh=>?_);refine wpAnyH_take (i:=0) (oi:=_) (v:=(.pointer (some ⟨w.heap.size,2,none⟩))) rfl (by kernel_rfl) (by kernel_rfl) (by kernel_rfl) (fun _ _ _ h=>h) (Or.inl ⟨by rfl,by intro X hX;(try dsimp only at hX);go_simp⟩) hh ?_
  try simp only [Act.put,List.setIfInBounds_toArray,List.set_cons_zero,List.set_cons_succ]
  refine wpAnyH_take (i:=2) (oi:=_) (v:=.agg #[.int .i64 e.sq,.int .i64 e.cl,.int .i64 e.tg,.int .i64 e.o.k,.string e.o.nm,.string e.o.ot,.int .i64 e.o.at_,.int .i64 e.o.va,.int .i64 e.o.ep]) rfl (by kernel_rfl) (by kernel_rfl) (by kernel_rfl) (fun _ _ _ h=>h) (Or.inl ⟨by rfl,by intro X hX;(try dsimp only at hX);go_simp⟩) hh ?_
  try simp only [Act.put,List.setIfInBounds_toArray,List.set_cons_zero,List.set_cons_succ]
  refine wpAnyH_take (i:=6) (oi:=_) (v:=.agg #[.slice x1 D1.cs.length j1,.slice x2 D1.ps.length j2,.slice x3 ms.length j3]) rfl (by kernel_rfl) (by kernel_rfl) (by kernel_rfl) (fun _ _ _ h=>h) (Or.inl ⟨by rfl,by intro X hX;(try dsimp only at hX);go_simp⟩) hh ?_
  try simp only [Act.put,List.setIfInBounds_toArray,List.set_cons_zero,List.set_cons_succ]
  refine wpAnyH_take (i:=7) (oi:=_) (v:=.agg #[.slice q1 (rpStep x e).ts.length r1,.slice q2 (rpStep x e).rs.length r2]) rfl (by kernel_rfl) (by kernel_rfl) (by kernel_rfl) (fun _ _ _ h=>h) (Or.inl ⟨by rfl,by intro X hX;(try dsimp only at hX);go_simp⟩) hh ?_
  try simp only [Act.put,List.setIfInBounds_toArray,List.set_cons_zero,List.set_cons_succ]
  refine wpAnyH_ready (rs:=[1,3]) (by kernel_rfl) (by simp) ?_;refine AllReadyH.cons (o:=_) rfl (fun K hK=>?_) (AllReadyH.cons (o:=_) rfl (fun K hK=>?_) AllReadyH.nil)
  go_simp
  refine hK.out _ _ (by with_reducible exact S0.out) (fun hk=>?_);clear hh hK K;have hh:=hk;clear hk
  try simp only [Act.put,List.setIfInBounds_toArray,List.set_cons_zero,List.set_cons_succ]
  refine wpAnyH_ready (rs:=[3]) (by kernel_rfl) (by simp) ?_;refine AllReadyH.cons (o:=_) rfl (fun K hK=>?_) AllReadyH.nil
  go_simp
  go_at_call 173
  refine (zim e.sq e.cl e.tg e.o.k e.o.at_ e.o.va e.o.ep e.o.nm e.o.ot _ hn1 hot1).mono ?_;rintro en w6 ⟨rfl,b6⟩;have A6 : Below W5.heap.size W5 w6:=za1 A1 b6;have s6:=A6.size;have kB6:=(A6.block _ l1).trans kB;have P6:=za0 kB6 2
  have P6a : ∀ o,(w6.alloc o).cell? ⟨w.heap.size,2,none⟩=some (.slice ol l.length cl):=(fun o=>za0 ((Below.heap_alloc w6 o _ (za2 kB6)).trans kB6) 2)
  have HOW6 : Hid _:=za9 HOW.out A6
  try dsimp only
  refine hK.out _ _ (by with_reducible exact HKeep _ (HKB _ A6)) (fun hk=>?_);clear hh hK K;have hh:=hk;clear hk
  try simp only [Act.put,List.setIfInBounds_toArray,List.set_cons_zero,List.set_cons_succ]
  refine wpAnyH_ready (rs:=[4]) (by kernel_rfl) (by simp) ?_;refine AllReadyH.cons (o:=_) rfl (fun K hK=>?_) AllReadyH.nil
  go_simp
  refine hK.out _ _ (by with_reducible exact HKeep _ (HKB _ (za3 A6))) (fun hk=>?_);clear hh hK K;have hh:=hk;clear hk
  try simp only [Act.put,List.setIfInBounds_toArray,List.set_cons_zero,List.set_cons_succ]
  rotate_left
  go_simp
  go_at_call 173
  refine (zim e.sq e.cl e.tg e.o.k e.o.at_ e.o.va e.o.ep e.o.nm e.o.ot _ hn1 hot1).mono ?_;rintro en w6 ⟨rfl,b6⟩;have A6 : Below W5.heap.size W5 w6:=za1 A1 b6;have s6:=A6.size;have kB6:=(A6.block _ l1).trans kB;have P6:=za0 kB6 2
  have P6a : ∀ o,(w6.alloc o).cell? ⟨w.heap.size,2,none⟩=some (.slice ol l.length cl):=(fun o=>za0 ((Below.heap_alloc w6 o _ (za2 kB6)).trans kB6) 2)
  have HOW6 : Hid _:=za9 HOW.out A6
  try dsimp only
  refine hK.out _ _ (by with_reducible exact HKeep _ (HKB _ A6)) (fun hk=>?_);clear hh hK K;have hh:=hk;clear hk
  try simp only [Act.put,List.setIfInBounds_toArray,List.set_cons_zero,List.set_cons_succ]
  refine wpAnyH_ready (rs:=[1,4]) (by kernel_rfl) (by simp) ?_;refine AllReadyH.cons (o:=_) rfl (fun K hK=>?_) (AllReadyH.cons (o:=_) rfl (fun K hK=>?_) AllReadyH.nil)
  go_simp
  refine hK.out _ _ (by with_reducible exact HKeep _ (HKB _ A6)) (fun hk=>?_);clear hh hK K;have hh:=hk;clear hk
  try simp only [Act.put,List.setIfInBounds_toArray,List.set_cons_zero,List.set_cons_succ]
  refine wpAnyH_ready (rs:=[4]) (by kernel_rfl) (by simp) ?_;refine AllReadyH.cons (o:=_) rfl (fun K hK=>?_) AllReadyH.nil
  go_simp
  refine hK.out _ _ (by with_reducible exact HKeep _ (HKB _ (za3 A6))) (fun hk=>?_);clear hh hK K;have hh:=hk;clear hk
  try simp only [Act.put,List.setIfInBounds_toArray,List.set_cons_zero,List.set_cons_succ]
  rotate_left
  go_simp
  refine hK.out _ _ (by with_reducible exact HKeep _ (HKB _ (za3 A6))) (fun hk=>?_);clear hh hK K;have hh:=hk;clear hk
  try simp only [Act.put,List.setIfInBounds_toArray,List.set_cons_zero,List.set_cons_succ]
  refine wpAnyH_ready (rs:=[1]) (by kernel_rfl) (by simp) ?_;refine AllReadyH.cons (o:=_) rfl (fun K hK=>?_) AllReadyH.nil
  go_simp
  refine hK.out _ _ (by with_reducible exact HKeep _ (HKB _ (za3 A6))) (fun hk=>?_);clear hh hK K;have hh:=hk;clear hk
  try simp only [Act.put,List.setIfInBounds_toArray,List.set_cons_zero,List.set_cons_succ]
  all_goals
    refine wpAnyH_ready (rs:=[5]) (by kernel_rfl) (by simp) ?_;refine AllReadyH.cons (o:=_) rfl (fun K hK=>?_) AllReadyH.nil;refine zgr rfl (.tmp 31) (.tmp 34) 24 rfl base 39 i0 (.agg #[.int .i64 0,.int .i64 0,.int .i64 0,.int .i64 0,.string ByteArray.empty,.string ByteArray.empty,.int .i64 0,.int .i64 0,.int .i64 0]) 9 88 Tryz.underlying24 hi hz0 hz1 hz2 rfl (by decide) (.slice ol l.length cl) l.length (l.flatMap zbs) ?e1 ?own ⟨w6.heap.size,0,none⟩ 1 1 (zbs e) ?e2 rfl ?hn (zyb _) ?h63 ?hb ?hbase ?_
    case e1=>first | rfl | simp [Act.eval]
    case own=>exact World.ownsRow.alloc HOW6.out _
    case e2=>first | rfl | simp [Act.eval]
    case hn=>exact zuo w6 e _
    case h63=>unfold maxLen;omega
    case hb=>omega
    case hbase=>simp;omega
    intro v7 w7 own7 gr7 nil7;obtain ⟨o7,c7,rfl⟩:=za4 own7;have A7 : KeepAt (fun k=>k=w.heap.size+1\/k=w1.heap.size\/k=w3.heap.size) W5 w7:=HAP.out _ _ _ none A6 gr7;have kB7:=(HAB.out _ _ _ none A6 gr7 _ (Nat.le_refl _) l1).trans kB;have kR7:=(HAB.out _ _ _ none A6 gr7 _ (by omega) l3).trans kR4;have f2:=za8 kB7 2;have f4:=za8 kB7 4;have f5:=za8 kB7 5;have f6:=za8 kB7 6;have f7:=za8 kB7 7;have f8:=za8 kB7 8;have p2:=za0 kB7 2;have p4:=za0 kB7 4;have p5:=za0 kB7 5;have p6:=za0 kB7 6;have p7:=za0 kB7 7;have p8:=za0 kB7 8;refine hK.out _ _ (by with_reducible exact HKeep _ A7) (fun hk=>?_);clear hh hK K;have hh:=hk;clear hk
    try simp only [Act.put,List.setIfInBounds_toArray,List.set_cons_zero,List.set_cons_succ]
    refine wpAnyH_ready (rs:=[8]) (by kernel_rfl) (by simp) ?_;refine AllReadyH.cons (o:=_) rfl (fun K hK=>?_) AllReadyH.nil
    go_simp
    refine hK.out _ _ (by with_reducible exact HKeep _ A7) (fun hk=>?_);clear hh hK K;have hh:=hk;clear hk
    try simp only [Act.put,List.setIfInBounds_toArray,List.set_cons_zero,List.set_cons_succ]
    refine wpAnyH_ready (rs:=[9]) (by kernel_rfl) (by simp) ?_;refine AllReadyH.cons (o:=_) rfl (fun K hK=>?_) AllReadyH.nil
    go_simp
    refine hK.out _ _ (by with_reducible exact HKeep _ (KeepAt.set A7 hnB _ _)) (fun hk=>?_);clear hh hK K;have hh:=hk;clear hk
    try simp only [Act.put,List.setIfInBounds_toArray,List.set_cons_zero,List.set_cons_succ]
    refine wpAnyH_ready (rs:=[10]) (by kernel_rfl) (by simp) ?_;refine AllReadyH.cons (o:=_) rfl (fun K hK=>?_) AllReadyH.nil
    go_simp
    refine hK.out _ _ (by with_reducible exact HKeep _ (KeepAt.set A7 hnB _ _)) (fun hk=>?_);clear hh hK K;have hh:=hk;clear hk
    try simp only [Act.put,List.setIfInBounds_toArray,List.set_cons_zero,List.set_cons_succ]
    refine wpAnyH_ready (rs:=[11]) (by kernel_rfl) (by simp) ?_;refine AllReadyH.cons (o:=_) rfl (fun K hK=>?_) AllReadyH.nil
    go_simp
    refine hK.out _ _ (by with_reducible exact HKeep _ (KeepAt.set (KeepAt.set (KeepAt.set (KeepAt.set A7 hnB _ _) hnB _ _) hnB _ _) hnB _ _)) (fun hk=>?_);clear hh hK K;have hh:=hk;clear hk
    try simp only [Act.put,List.setIfInBounds_toArray,List.set_cons_zero,List.set_cons_succ]
    refine wpAnyH_ready (rs:=[12]) (by kernel_rfl) (by simp) ?_;refine AllReadyH.cons (o:=_) rfl (fun K hK=>?_) AllReadyH.nil
    go_simp
    refine hK.out _ _ (by with_reducible exact HKeep _ (KeepAt.set (KeepAt.set (KeepAt.set (KeepAt.set A7 hnB _ _) hnB _ _) hnB _ _) hnB _ _)) (fun hk=>?_);clear hh hK K;have hh:=hk;clear hk
    try simp only [Act.put,List.setIfInBounds_toArray,List.set_cons_zero,List.set_cons_succ]
    refine wpAnyH_ready (rs:=[13]) (by kernel_rfl) (by simp) ?_;refine AllReadyH.cons (o:=_) rfl (fun K hK=>?_) AllReadyH.nil
    go_simp
    refine hK.out _ _ (by with_reducible exact HKeep _ (KeepAt.set (KeepAt.set (KeepAt.set (KeepAt.set (KeepAt.set (KeepAt.set A7 hnB _ _) hnB _ _) hnB _ _) hnB _ _) hnB _ _) hnB _ _)) (fun hk=>?_);clear hh hK K;have hh:=hk;clear hk
    try simp only [Act.put,List.setIfInBounds_toArray,List.set_cons_zero,List.set_cons_succ]
    refine wpAnyH_done (by kernel_rfl) ?_ _;have bX : Below W5.heap.size W5 (w6.alloc (.cells #[.int .i64 e.sq,.int .i64 e.cl,.int .i64 e.tg,.int .i64 e.o.k,.string e.o.nm,.string e.o.ot,.int .i64 e.o.at_,.int .i64 e.o.va,.int .i64 e.o.ep] 39)):=za3 A6;have hb0:=(Below.refl 0 _).grown gr7 (Nat.zero_le _) (fun _ _=>Nat.zero_le _)
    have rg : Rng 0 w.heap.size (w6.alloc (.cells #[.int .i64 e.sq,.int .i64 e.cl,.int .i64 e.tg,.int .i64 e.o.k,.string e.o.nm,.string e.o.ot,.int .i64 e.o.at_,.int .i64 e.o.va,.int .i64 e.o.ep] 39)) w7:=⟨hb0.os,hb0.tape,hb0.output,hb0.size,fun k hk hc=>gr7.block k hk (fun e=>by have:=hG.out k e.symm;omega)⟩
    obtain ⟨W8,hW8⟩ : ∃ W8 : World,W8=(((((w7.setCell ⟨w.heap.size,2,none⟩ (.slice o7 (l.length+1) c7)).setCell ⟨w.heap.size,4,none⟩ (.slice x1 D1.cs.length j1)).setCell ⟨w.heap.size,5,none⟩ (.slice x2 D1.ps.length j2)).setCell ⟨w.heap.size,6,none⟩ (.slice x3 ms.length j3)).setCell ⟨w.heap.size,7,none⟩ (.slice q1 (rpStep x e).ts.length r1)).setCell ⟨w.heap.size,8,none⟩ (.slice q2 (rpStep x e).rs.length r2):=⟨_,rfl⟩
    rw [<- hW8];obtain ⟨kW8,kWR,uW⟩:=zuq kB7 kR7 (by omega) _ _ _ _ _ _ hW8
    obtain ⟨V,hV⟩ : ∃ V : World,V=(((((((((W8.setCell ⟨w.heap.size+1+1,0,none⟩ (.bool up)).setCell ⟨w.heap.size+1+1,1,none⟩ (.int .i64 pg)).setCell ⟨w.heap.size+1+1,2,none⟩ (.slice o7 (l.length+1) c7)).setCell ⟨w.heap.size+1+1,3,none⟩ (.int .i64 ak)).setCell ⟨w.heap.size+1+1,4,none⟩ (.slice x1 D1.cs.length j1)).setCell ⟨w.heap.size+1+1,5,none⟩ (.slice x2 D1.ps.length j2)).setCell ⟨w.heap.size+1+1,6,none⟩ (.slice x3 ms.length j3)).setCell ⟨w.heap.size+1+1,7,none⟩ (.slice q1 (rpStep x e).ts.length r1)).setCell ⟨w.heap.size+1+1,8,none⟩ (.slice q2 (rpStep x e).rs.length r2)):=⟨_,rfl⟩
    have HV : Hid (V = _):=hV;have HE : Hid _:=zhi kWR (.bool up) (.int .i64 pg) (.slice o7 (l.length+1) c7) (.int .i64 ak) (.slice x1 D1.cs.length j1) (.slice x2 D1.ps.length j2) (.slice x3 ms.length j3) (.slice q1 (rpStep x e).ts.length r1) (.slice q2 (rpStep x e).rs.length r2) hV;have uV:=HE.out.2;have hrs : (rpStep x e).s=D1:=by show (doOp x.s e.o).1=D1;rw [hD]
    have osV:=((((os4.below bX).rng rg (show w.heap.size<=W0.heap.size by omega)).upto uW (by omega)).upto uV (by omega)).mono (show w.heap.size<=W0.heap.size by omega);have omV:=((((om4.below bX).rng rg (show w.heap.size<=W2.heap.size by omega)).upto uW (by omega)).upto uV (by omega)).mono (show w.heap.size<=W2.heap.size by omega);have own8:=zbd (S:=fun k=>k=w.heap.size) own7 (zis uW) (fun q hq e=>zaa own7 kB7 (by decide) (by rw [hq,e]));have own9:=zbd (S:=fun k=>k=w.heap.size+1+1) own8 (zis uV) (fun q hq e=>zaa own8 kWR (by decide) (by rw [hq,e]));have own10:=zup own9;have onV:=(zqj (((Only.refl (fun k=>(Value.slice ol l.length cl).ownBlock=some k) w).below b04).below bX) gr7 (fun k e=>e)).upHi uW (Nat.le_refl _);have onV2:=onV.upHi uV (by omega);have osR : OwnS w.heap.size V (.slice x1 D1.cs.length j1) (.slice x2 D1.ps.length j2) (.slice x3 ms.length j3) (rpStep x e).s.cs (rpStep x e).s.ps ms:=by rw [hrs];exact osV
    have hmR : ms.map Bk.pb=(rpStep x e).s.bs:=by rw [hrs];exact hms
    have HF : Hid _:=And.intro own10 (And.intro osR (And.intro hmR (And.intro omV (And.intro HAM.out onV2))));have q0:=za0 kW8 0;have q1':=za0 kW8 1;have q2':=za0 kW8 2;have q3':=za0 kW8 3;have q4':=za0 kW8 4;have q5':=za0 kW8 5;have q6':=za0 kW8 6;have q7':=za0 kW8 7;have q8':=za0 kW8 8;obtain ⟨g0,g1,g2,g3,g4,g5,g6,g7,g8⟩:=oq9 kWR;obtain ⟨n0,n1,n2,n3,n4,n5,n6,n7,n8⟩:=cq9 kWR;clear f2 f4 f5 f6 f7 f8 p2 p4 p5 p6 p7 p8 kB7 kR7 A7 A6 bX hb0 rg uW uV osV omV own7 own8 own9 own10 onV onV2 gr7 nil7 P6 P6a kB6 b6 s6 hh HKeep HKB P5 A1 own4 os4 om4 b04 k0 k1' kR kB2 kE2 kR2 kS kP kM kB kE kR4 kS4 own0 own2 os os2 om rs0 rm0 rm2 hrs hms hD osR hmR hbe hx hnb hf hv hv0 z0 z2 z4 zb hnB S0 HAP HAB HOW HOW6 HSH HST b1 d2 d4 B02 B24 b3 d0 hi hz0 hz1 hz2 hn hot hn1 hot1 fsq fcl ftg fk fa fv fe hl hbase l1 l2 l3 l4 l5 y1 y3 hG hW8 kW8 kWR hV
    go_wp2_with fail
    rw [<- HV.out];refine bodyPost_ret (v:=.agg #[.bool up,.int .i64 pg,.slice o7 (l.length+1) c7,.int .i64 ak,.slice x1 D1.cs.length j1,.slice x2 D1.ps.length j2,.slice x3 ms.length j3,.slice q1 (rpStep x e).ts.length r1,.slice q2 (rpStep x e).rs.length r2]) (by simp [results,Tryz.results126,go_sem,za0 HE.out.1]) rfl ?_;exact ⟨.slice o7 (l.length+1) c7,.slice x1 D1.cs.length j1,.slice x2 D1.ps.length j2,.slice x3 ms.length j3,.slice q1 (rpStep x e).ts.length r1,.slice q2 (rpStep x e).rs.length r2,ms,rfl,HF.out⟩
theorem zm7 (n : Int) : (zao n).2=inB n 1 24:=by
  unfold zao;by_cases h : 1<=n/\n<=24
  · rw [if_pos h,(inB_iff _ _ _).2 h]
  · rw [if_neg h]
    symm
    rw [Bool.eq_false_iff];exact fun h2=>h ((inB_iff _ _ _).1 h2)
theorem zus {s : Sf} (h : ShInv s) {ms : List Bk} (hb : ms.map Bk.pb=s.bs) : (∀ b ∈ ms,b.nm.size<=maxLen)/\(∀ b ∈ ms,zb9 b.rs):=by
  have hk : ∀ b ∈ ms,(Bk.pb b).ok=true:=fun b hm=>h.oks _ (by rw [<- hb];exact List.mem_map_of_mem hm)
  refine ⟨fun b hm=>?_,fun b hm=>zw8 (rs:=(Bk.pb b).rs) (zaw (hk b hm)).2.2.2.1⟩;have h1 : b.nm.size<=4:=(zd1 _ (zaw (hk b hm)).1).2;unfold maxLen
  omega
theorem zwn (n : Nat) (hn : n<=1048576) : ∃ M : Array Value,(∀ W : World,(Instr.makeSlice 24 (.int .i64 0) (.int .i64 (n : Int))).run Tryz.prog W = .ok (.slice (some ⟨W.heap.size,0,none⟩) 0 n) (W.alloc (.cells M 39))) /\
    ∀ (W : World) (base : Nat),base<=W.heap.size->(W.alloc (.cells M 39)).ownsRow base 39 9 (.slice (some ⟨W.heap.size,0,none⟩) 0 n) 0 []:=by
  obtain ⟨i0,hi,hz0,hz1,hz2⟩:=info_parts Tryz.infoEntG;refine ⟨madeCells (Value.agg #[.int .i64 0,.int .i64 0,.int .i64 0,.int .i64 0,.string ByteArray.empty,.string ByteArray.empty,.int .i64 0,.int .i64 0,.int .i64 0]).cells (n * 9),fun W=>?_,fun W base hb=>?_⟩
  · have h:=run_make (P:=Tryz.prog) W 24 39 i0 (.agg #[.int .i64 0,.int .i64 0,.int .i64 0,.int .i64 0,.string ByteArray.empty,.string ByteArray.empty,.int .i64 0,.int .i64 0,.int .i64 0]) Tryz.underlying24 hi hz0 .i64 .i64 0 (n : Int) (by omega) (by omega) (by rw [hz2];omega) (by omega)
    rw [hz1,Int.toNat_natCast] at h
    simpa using h
  · exact ⟨rfl,.inr ⟨_,n,_,rfl,hb,heap_alloc_new W _,Nat.zero_le _,by unfold maxLen;omega,by rw [size_madeCells],by simp⟩⟩
structure HsAt (n : Int) (l : List Ent) (k : Nat) (base b : Nat) (W : World) (vl u1 u2 ub m1 m2 : Value) (ms : List Bk) : Prop where
  box : W.heap[b]? = some (.cells #[.bool true,.int .i64 n,vl,.int .i64 0,u1,u2,ub,m1,m2] 35 (0,0))
  log : W.ownsRow base 39 9 vl (l.take k).length ((l.take k).flatMap zbs)
  sh : OwnS base W u1 u2 ub (rpFrom (rpNew n) (l.take k)).s.cs (rpFrom (rpNew n) (l.take k)).s.ps ms
  bs : ms.map Bk.pb=(rpFrom (rpNew n) (l.take k)).s.bs
  mm : OwnM base W m1 m2 (rpFrom (rpNew n) (l.take k)).ts (rpFrom (rpNew n) (l.take k)).rs
  ap : (∀ g,(u1.ownBlock=some g\/u2.ownBlock=some g)->m1.ownBlock ≠ some g)
theorem HsAt.below {n : Int} {l : List Ent} {k base b : Nat} {W W' : World} {vl u1 u2 ub m1 m2 : Value} {ms : List Bk} (h : HsAt n l k base b W vl u1 u2 ub m1 m2 ms) (d : Below W.heap.size W W') : HsAt n l k base b W' vl u1 u2 ub m1 m2 ms :=
  ⟨(d.block _ (za2 h.box)).trans h.box,za9 h.log d,h.sh.below d,h.bs,h.mm.below d,h.ap⟩
theorem HsAt.log_not {n : Int} {l : List Ent} {k base b : Nat} {W : World} {vl u1 u2 ub m1 m2 : Value} {ms : List Bk} (h : HsAt n l k base b W vl u1 u2 ub m1 m2 ms) {c : Nat} {zs : Array Value} (kc : W.heap[c]? = some (.cells zs 35 (0,0))) : ¬ vl.ownBlock=some c:=zaa h.log kc (by decide)
theorem zwo {n : Int} {l : List Ent} {k base b R : Nat} {W : World} {vl u1 u2 ub m1 m2 : Value} {ms : List Bk} {zs : Array Value} (h : HsAt n l k base b W vl u1 u2 ub m1 m2 ms) (hk : k < l.length) {x : Ent} (hx : l[k]=x) (kR : W.heap[R]? = some (.cells zs 35 (0,0))) (hbR : R ≠ b) (hb : base<=b) (W6 W7 : World) (vl' v1 v2 vb n1 n2 : Value) (ms' : List Bk)
    (own : W6.ownsRow base 39 9 vl' (l.take k ++ [x]).length ((l.take k ++ [x]).flatMap zbs)) (os : OwnS W.heap.size W6 v1 v2 vb (rpStep (rpFrom (rpNew n) (l.take k)) x).s.cs (rpStep (rpFrom (rpNew n) (l.take k)) x).s.ps ms') (hms : ms'.map Bk.pb=(rpStep (rpFrom (rpNew n) (l.take k)) x).s.bs) (om : OwnM W.heap.size W6 n1 n2 (rpStep (rpFrom (rpNew n) (l.take k)) x).ts (rpStep (rpFrom (rpNew n) (l.take k)) x).rs) (hap : (∀ g,(v1.ownBlock=some g\/v2.ownBlock=some g)->n1.ownBlock ≠ some g)) (on : Only (fun j=>vl.ownBlock=some j) W W6)
    (hW : W7=(((((((((W6.setCell ⟨b,0,none⟩ (.bool true)).setCell ⟨b,1,none⟩ (.int .i64 n)).setCell ⟨b,2,none⟩ (vl')).setCell ⟨b,3,none⟩ (.int .i64 0)).setCell ⟨b,4,none⟩ (v1)).setCell ⟨b,5,none⟩ (v2)).setCell ⟨b,6,none⟩ (vb)).setCell ⟨b,7,none⟩ (n1)).setCell ⟨b,8,none⟩ (n2))) :
    HsAt n l (k+1) base b W7 vl' v1 v2 vb n1 n2 ms'/\W7.heap[R]? = some (.cells zs 35 (0,0))/\Below base W W7:=by
  subst hx;have kb6:=(on.block b (za2 h.box) (h.log_not h.box)).trans h.box;have kR6:=(on.block R (za2 kR) (h.log_not kR)).trans kR;have hlt : b < W.heap.size:=za2 h.box;obtain ⟨kb7,u7⟩:=zhi kb6 (.bool true) (.int .i64 n) vl' (.int .i64 0) v1 v2 vb n1 n2 hW;have kR7:=(u7.block R (za2 kR6) hbR).trans kR6;have et:=zh0 (rpNew n) l k hk;have el : l.take k ++ [l[k]]=l.take (k+1):=(List.take_succ_eq_append_getElem hk).symm;refine ⟨⟨kb7,?_,?_,by rw [et];exact hms,?_,hap⟩,kR7,?_⟩
  · have:=zbd (S:=fun j=>j=b) own (zis u7) (fun q hq e=>zaa own kb6 (by decide) (by rw [hq,e]))
    rw [el] at this;exact this
  · rw [et];exact (os.upto u7 hlt).mono (by omega)
  · rw [et];exact (om.upto u7 hlt).mono (by omega)
  · have d1 : Below base W W6:=on.toBelow (by omega) (fun j hj=>(h.log.lt j hj).1)
    exact d1.trans (u7.toBelow (by have:=on.size;omega) (by omega))
theorem zyc {n : Int} {l : List Ent} (hok : ze3 n l=true) (k : Nat) (hk : k < l.length) : RpInv (rpFrom (rpNew n) (l.take k))/\zee (rpFrom (rpNew n) (l.take k)).ts (rpFrom (rpNew n) (l.take k)).rs l[k].cl l[k].tg (doOp (rpFrom (rpNew n) (l.take k)).s l[k].o).2=(((rpStep (rpFrom (rpNew n) (l.take k)) l[k]).ts,(rpStep (rpFrom (rpNew n) (l.take k)) l[k]).rs),true)/\l[k].o.nm.size<=1099511627776/\l[k].o.ot.size<=1099511627776/\(l.take k).length<=120:=by
  obtain ⟨hn,hl,ho⟩:=zg9 hok;have inv:=(zdx hn ho k (by omega)).1;have hs:=zjs hn ho k hk;have hc:=(zgy (zg8 hs).1).2.2.2;simp only [zdt,Bool.and_eq_true] at hc;have hb:=zkl _ hc.1;exact ⟨inv,zrg inv hs,by omega,by omega,by rw [List.length_take];omega⟩
end Go.Proofs.YtfkkapdofjhgpaaGreatDoor
