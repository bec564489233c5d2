import Derived.Deep.Cut
import Derived.Test.YtfkkapdofjhgpaaGreatDoorM06
import Derived.Test.YtfkkapdofjhgpaaGreatDoorM40
import Derived.Test.YtfkkapdofjhgpaaGreatDoorM41
set_option maxHeartbeats 12800000
namespace Go.Proofs.YtfkkapdofjhgpaaGreatDoor
open Go.RowKit
set_option linter.unusedVariables false
set_option linter.unusedSimpArgs false
theorem Tryz.infoHouse9 : (Tryz.prog.info? 35).map (·.size)=some 9:=by kernel_rfl
set_option maxRecDepth 100000 in
theorem zql (n : Int) (v : Value) (l : List Ent) (w : World) (ad : Nat->Addr) (hv : VarsS w ad) (hf : ze0 l) (hok : ze3 n l=true) (r : ReadsR 9 zbs w.heap.size w v l) :
    Calls Tryz.prog 66 #[.int .i64 n,v] w fun e w'=>∃ (vl u1 u2 ub m1 m2 : Value) (ms : List Bk),e = .returned (.agg #[.bool true,.int .i64 n,vl,.int .i64 0,u1,u2,ub,m1,m2])/\w'.ownsRow w.heap.size 39 9 vl l.length (l.flatMap zbs)/\OwnS w.heap.size w' u1 u2 ub (rpFrom (rpNew n) l).s.cs (rpFrom (rpNew n) l).s.ps ms/\ms.map Bk.pb=(rpFrom (rpNew n) l).s.bs/\OwnM w.heap.size w' m1 m2 (rpFrom (rpNew n) l).ts (rpFrom (rpNew n) l).rs/\(∀ g,(u1.ownBlock=some g\/u2.ownBlock=some g)->m1.ownBlock ≠ some g)/\Below w.heap.size w w':=by
  obtain ⟨o,cap,rfl⟩:=r.form;have HOK : Hid (ze3 n l=true):=hok;have HFL : Hid (ze0 l):=hf;obtain ⟨hn,hl,ho⟩:=zg9 hok;have hp : (zao n).2=true:=by rw [zm7,(inB_iff _ _ _).2 hn]
  have hlo : logOk l=true:=by simp [logOk,hl,ho]
  obtain ⟨M,hmk,hown⟩:=zwn l.length (by omega);have HMK : Hid _:=hmk;have HOWN : Hid _:=hown;obtain ⟨W0,hW0,kR,d0,z0⟩:=zb4 w #[.bool false,.int .i64 0,.slice none 0 0,.int .i64 0,.slice none 0 0,.slice none 0 0,.slice none 0 0,.slice none 0 0,.slice none 0 0] 35;have HW0 : Hid (W0 = _):=hW0;have HRD : Hid _:=r;have r0:=(r.below d0).mono d0.size;have hns:=zfy n W0;rw [hp] at hns;have hv0:=hv.below d0;clear hmk hown hW0 hok hp ho hn r
  go_enter Tryz.func66,Tryz.ntmps66
  go_upto_region 1 with fail
  rw [<- HW0.out];clear HW0
  go_upto_region 2 with (go_at_call 127;refine hns.mono ?_;rintro e w1 ⟨u1,u2,ub,rfl,op,ob,b1⟩;obtain ⟨x1,j1,rfl⟩:=za4 op.c;obtain ⟨x2,j2,rfl⟩:=za4 op.p;have ob0 : w1.ownsRow W0.heap.size 117 5 ub 0 []:=ob.row;obtain ⟨x3,j3,rfl⟩:=za4 ob0)
  obtain ⟨W2,hW2,kS,d2,z2⟩:=zb4 w1 #[.slice x1 (zao n).1.1.length j1,.slice x2 (zao n).1.2.length j2,.slice x3 0 j3] 30;have HW2 : Hid (W2 = _):=hW2;have B02:=za1 b1 d2;have r2:=(r0.below B02).mono B02.size;have kR2:=kb0 B02 kR;have op2:=op.below d2;have ob2:=ob.below d2;have hv2:=hv0.below B02;have hlg:=zht _ l W2 hf r2;rw [hlo] at hlg;rw [<- HW2.out];clear HW2 hW2 hns ob0 op ob
  go_upto_region 3 with (go_at_call 119;refine (zid _).mono ?_;rintro e X3 ⟨rfl,rfl⟩)
  go_upto_region 4 with (first | (go_at_call 124;refine hlg.mono ?_;rintro e w4 ⟨rfl,b5⟩) | (go_at_call 119;refine (zid _).mono ?_;rintro e X5 ⟨rfl,rfl⟩))
  have B05:=za1 (za1 d0 B02) b5;have kS5:=kb0 b5 kS;have kR5:=kb0 b5 kR2;have op5:=op2.below b5;have ob5:=ob2.below b5;clear hlg kS kR2 op2 ob2 kR r0 r2 hv0 hv2 hlo hf
  obtain ⟨R,hR0⟩ : ∃ R : Nat->Value->World->Prop,R=fun j v X=>match j with
    | 0=>v = .int .i64 n
    | 1=>v = .slice o l.length cap
    | 2=>v = .int .i64 (l.length : Int)
    | 3=>∃ g : Nat,v = .slice (some ⟨g,0,none⟩) 0 l.length/\X.ownsRow w.heap.size 39 9 (.slice (some ⟨g,0,none⟩) 0 l.length) 0 []
    | 4=>v = .agg #[.slice x1 (zao n).1.1.length j1,.slice x2 (zao n).1.2.length j2,.slice x3 0 j3]
    | 5=>∃ (a1 : Option Addr) (c1 : Nat) (a2 : Option Addr) (c2 : Nat),v = .agg #[.slice a1 4 c1,.slice a2 4 c2]/\OwnM X5.heap.size X (.slice a1 4 c1) (.slice a2 4 c2) [0,0,0,0] [(0,0),(0,0),(0,0),(0,0)]
    | 6=>∃ (g : Nat) (a1 : Option Addr) (c1 : Nat) (a2 : Option Addr) (c2 : Nat),v = .agg #[.bool true,.int .i64 n,.slice (some ⟨g,0,none⟩) 0 l.length,.int .i64 0,.slice x1 (zao n).1.1.length j1,.slice x2 (zao n).1.2.length j2,.slice x3 0 j3,.slice a1 4 c1,.slice a2 4 c2]/\X.ownsRow w.heap.size 39 9 (.slice (some ⟨g,0,none⟩) 0 l.length) 0 []/\OwnM X5.heap.size X (.slice a1 4 c1) (.slice a2 4 c2) [0,0,0,0] [(0,0),(0,0),(0,0),(0,0)]
    | 7=>∃ g : Nat,v = .pointer (some ⟨g,0,none⟩)/\X5.heap.size<=g/\X.heap[g]? = some (.cells #[.bool false,.int .i64 0,.slice none 0 0,.int .i64 0,.slice none 0 0,.slice none 0 0,.slice none 0 0,.slice none 0 0,.slice none 0 0] 35 (0,0))
    | _=>True:=⟨_,rfl⟩
  have hR : Hid _:=hR0;clear hR0
  have RMO : ∀ X X',Below X.heap.size X X'->∀ j v,R j v X->R j v X':=fun X X' hb j v=>by
    rw [hR.out]
    match j with
    | 0=>exact id
    | 1=>exact id
    | 2=>exact id
    | 3=>exact fun ⟨g,e,ow⟩=>⟨g,e,za9 ow hb⟩
    | 4=>exact id
    | 5=>exact fun ⟨a1,c1,a2,c2,e,om⟩=>⟨a1,c1,a2,c2,e,om.below hb⟩
    | 6=>exact fun ⟨g,a1,c1,a2,c2,e,ow,om⟩=>⟨g,a1,c1,a2,c2,e,za9 ow hb,om.below hb⟩
    | 7=>exact fun ⟨g,e,hg,k⟩=>⟨g,e,hg,kb0 hb k⟩
    | _+8=>exact id
  refine zhn (I:=RXs _ 8 7 26 R _ X5) (by kernel_rfl) (RXs.start _ 8 7 26 _ _ X5) ?_ ?_
  · intro L a y i hL hD hi h
    obtain ⟨X,h⟩:=h;have hin : i < 9:=(zdo hi).1;have hnot:=(zdo hi).2.1;have hc : i=0\/i=1\/i=2\/i=3\/i=4\/i=5\/i=6\/i=7\/i=8:=by omega
    have t0 : a.tmps.getD 0 undef = .int .i64 n:=h.old 0 (by kernel_rfl);have t1 : a.tmps.getD 1 undef = .slice o l.length cap:=h.old 1 (by kernel_rfl);have t5 : a.tmps.getD 5 undef = .pointer (some ⟨w1.heap.size,0,none⟩):=h.old 5 (by kernel_rfl);rcases hc with rfl | rfl | rfl | rfl | rfl | rfl | rfl | rfl | rfl
    · refine zcg rfl rfl ?_
      unfold Oper.wp
      go_simp
      exact h.put 0 20 _ (by decide) (by kernel_rfl) (of_decide_eq_true (by kernel_rfl)) (by kernel_rfl) (by kernel_rfl) (by decide) (by decide) (by rw [hR.out];exact rfl)
    · refine zcg rfl rfl ?_
      unfold Oper.wp
      go_simp
      exact h.put 1 21 _ (by decide) (by kernel_rfl) (of_decide_eq_true (by kernel_rfl)) (by kernel_rfl) (by kernel_rfl) (by decide) (by decide) (by rw [hR.out];exact rfl)
    · have hn' : L.getD 8 false=false:=hD.no 8 [6,3,2] hnot (by kernel_rfl) rfl
      obtain rfl:=h.pre hn';have q1:=h.rel 1 21 (zbi hi (by kernel_rfl)) (by kernel_rfl);rw [hR.out] at q1;have q1' : a.tmps.getD 21 undef = .slice o l.length cap:=q1;have s21 : a.tmps[21]?.getD undef = .slice o l.length cap:=(Array.getD_eq_getD_getElem? ..).symm.trans q1';clear q1;refine zcg rfl rfl ?_;unfold Oper.wp
      go_simp
      exact h.put 2 22 _ (by decide) (by kernel_rfl) (of_decide_eq_true (by kernel_rfl)) (by kernel_rfl) (by kernel_rfl) (by decide) (by decide) (by rw [hR.out];exact rfl)
    · have hn' : L.getD 8 false=false:=hD.no 8 [6,3] hnot (by kernel_rfl) rfl
      obtain rfl:=h.pre hn';have q2:=h.rel 2 22 (zbi hi (by kernel_rfl)) (by kernel_rfl);rw [hR.out] at q2;have q2' : a.tmps.getD 22 undef = .int .i64 (l.length : Int):=q2;have s22 : a.tmps[22]?.getD undef = .int .i64 (l.length : Int):=(Array.getD_eq_getD_getElem? ..).symm.trans q2';clear q2;have hmy:=HMK.out y;have hb : Below y.heap.size y (y.alloc (.cells M 39)):=za3 (Below.refl _ _);have hoy:=HOWN.out y w.heap.size (by have:=h.bel.size;have:=B05.size;omega);refine zcg rfl rfl ?_;unfold Oper.wp
      go_simp
      exact h.val 3 23 _ _ (by decide) (by kernel_rfl) (of_decide_eq_true (by kernel_rfl)) (by kernel_rfl) (by kernel_rfl) hn' hb (by rw [hR.out];exact ⟨_,rfl,hoy⟩) (RMO _ _ hb)
    · have hn' : L.getD 8 false=false:=hD.no 8 [6,4] hnot (by kernel_rfl) rfl
      obtain rfl:=h.pre hn';have kSy:=(h.bel.block _ (za2 kS5)).trans kS5;obtain ⟨c0,c1,c2⟩:=cq3 kSy;refine zcg rfl rfl ?_;unfold Oper.wp
      go_simp
      exact h.put 4 24 _ (by decide) (by kernel_rfl) (of_decide_eq_true (by kernel_rfl)) (by kernel_rfl) (by kernel_rfl) (by decide) (by decide) (by rw [hR.out];exact rfl)
    · have hn' : L.getD 8 false=false:=hD.no 8 [6,5] hnot (by kernel_rfl) rfl
      obtain rfl:=h.pre hn';refine zcg rfl rfl ?_;unfold Oper.wp
      go_simp
      go_at_call 128
      refine (zka _).mono ?_;rintro e y1 ⟨m1,m2,rfl,om,hb⟩;obtain ⟨a1,c1,a2,c2,e1,e2⟩:=om.forms;have e1' : m1 = .slice a1 4 c1:=e1;have e2' : m2 = .slice a2 4 c2:=e2;subst e1' e2';exact h.val 5 25 _ y1 (by decide) (by kernel_rfl) (of_decide_eq_true (by kernel_rfl)) (by kernel_rfl) (by kernel_rfl) hn' hb (by rw [hR.out];exact ⟨a1,c1,a2,c2,rfl,om.mono h.bel.size⟩) (RMO _ _ hb)
    · have hn' : L.getD 8 false=false:=hD.no 8 [6] hnot (by kernel_rfl) rfl
      obtain rfl:=h.pre hn';have q0:=h.rel 0 20 (zbi hi (by kernel_rfl)) (by kernel_rfl);rw [hR.out] at q0;have q0' : a.tmps.getD 20 undef = .int .i64 n:=q0;have s20 : a.tmps[20]?.getD undef = .int .i64 n:=(Array.getD_eq_getD_getElem? ..).symm.trans q0';clear q0;have q3:=h.rel 3 23 (zbi hi (by kernel_rfl)) (by kernel_rfl);rw [hR.out] at q3;have q4:=h.rel 4 24 (zbi hi (by kernel_rfl)) (by kernel_rfl);rw [hR.out] at q4;have q4' : a.tmps.getD 24 undef = .agg #[.slice x1 (zao n).1.1.length j1,.slice x2 (zao n).1.2.length j2,.slice x3 0 j3]:=q4;have s24 : a.tmps[24]?.getD undef = .agg #[.slice x1 (zao n).1.1.length j1,.slice x2 (zao n).1.2.length j2,.slice x3 0 j3]:=(Array.getD_eq_getD_getElem? ..).symm.trans q4';clear q4;have q5:=h.rel 5 25 (zbi hi (by kernel_rfl)) (by kernel_rfl);rw [hR.out] at q5;obtain ⟨g,e23,ow⟩:=q3;obtain ⟨a1,c1,a2,c2,e25,om⟩:=q5;have s23 : a.tmps[23]?.getD undef = .slice (some ⟨g,0,none⟩) 0 l.length:=(Array.getD_eq_getD_getElem? ..).symm.trans e23;have s25 : a.tmps[25]?.getD undef = .agg #[.slice a1 4 c1,.slice a2 4 c2]:=(Array.getD_eq_getD_getElem? ..).symm.trans e25;refine zcg rfl rfl ?_;unfold Oper.wp
      go_simp
      exact h.val 6 26 _ y (by decide) (by kernel_rfl) (of_decide_eq_true (by kernel_rfl)) (by kernel_rfl) (by kernel_rfl) hn' (Below.refl _ _) (by rw [hR.out];exact ⟨g,a1,c1,a2,c2,rfl,ow,om⟩) (fun _ _ q=>q)
    · have hn' : L.getD 8 false=false:=hD.no 8 [7] hnot (by kernel_rfl) rfl
      obtain rfl:=h.pre hn';have hb : Below y.heap.size y (y.alloc (.cells #[.bool false,.int .i64 0,.slice none 0 0,.int .i64 0,.slice none 0 0,.slice none 0 0,.slice none 0 0,.slice none 0 0,.slice none 0 0] 35)):=za3 (Below.refl _ _);refine zcg rfl rfl ?_;unfold Oper.wp
      go_simp
      exact h.val 7 7 _ _ (by decide) (by kernel_rfl) (of_decide_eq_true (by kernel_rfl)) (by kernel_rfl) (by kernel_rfl) hn' hb (by rw [hR.out];exact ⟨_,rfl,h.bel.size,heap_alloc_new y _⟩) (RMO _ _ hb)
    · have hn':=zft hnot
      obtain rfl:=h.pre hn';have q6:=h.rel 6 26 (zbi hi (by kernel_rfl)) (by kernel_rfl);rw [hR.out] at q6;have q7:=h.rel 7 7 (zbi hi (by kernel_rfl)) (by kernel_rfl);rw [hR.out] at q7;obtain ⟨g,a1,c1,a2,c2,eV,ow,om⟩:=q6;obtain ⟨g7,eB,hg7,k7⟩:=q7;refine zcg rfl rfl (zpo 35 7 26 rfl rfl g7 eB _ eV #[.bool false,.int .i64 0,.slice none 0 0,.int .i64 0,.slice none 0 0,.slice none 0 0,.slice none 0 0,.slice none 0 0,.slice none 0 0] 35 k7 Tryz.infoHouse9 rfl (by simp [Value.oneCell']) ?_);exact h.store (by rw [hL];exact of_decide_eq_true (by kernel_rfl)) hn' (by kernel_rfl) eB eV
  · intro L a y hL hD hr h
    obtain ⟨X,h⟩:=h;have hall:=zpn hL hr (by kernel_rfl);obtain ⟨g0,zs,eB,eV,rfl⟩:=h.fin (hall 8 (of_decide_eq_true (by kernel_rfl)));have qV:=h.rel 6 26 (hall 6 (of_decide_eq_true (by kernel_rfl))) (by kernel_rfl);have qB:=h.rel 7 7 (hall 7 (of_decide_eq_true (by kernel_rfl))) (by kernel_rfl);rw [hR.out] at qV qB;obtain ⟨g,a1,c1,a2,c2,eV',ow,om0⟩:=qV;have om:=om0.mono B05.size
    have hap0 : (∀ g,((Value.slice x1 (zao n).1.1.length j1).ownBlock=some g\/(Value.slice x2 (zao n).1.2.length j2).ownBlock=some g)->(Value.slice a1 4 c1).ownBlock ≠ some g):=fun g h1 h2=>by
      have a:=(op5.span g h1).2;have b:=(om0.span g (.inl h2)).1
      omega
    obtain ⟨g7,eB',hg7,k7⟩:=qB;have en : (Value.pointer (some ⟨g0,0,none⟩)) = .pointer (some ⟨g7,0,none⟩):=eB.symm.trans eB';have ez : Value.agg zs = .agg #[.bool true,.int .i64 n,.slice (some ⟨g,0,none⟩) 0 l.length,.int .i64 0,.slice x1 (zao n).1.1.length j1,.slice x2 (zao n).1.2.length j2,.slice x3 0 j3,.slice a1 4 c1,.slice a2 4 c2]:=eV.symm.trans eV';simp only [Value.pointer.injEq,Option.some.injEq,Addr.mk.injEq,and_true] at en;simp only [Value.agg.injEq] at ez;subst en ez
    obtain ⟨Y,hY⟩ : ∃ Y,Y=X.setRow g0 #[.bool true,.int .i64 n,.slice (some ⟨g,0,none⟩) 0 l.length,.int .i64 0,.slice x1 (zao n).1.1.length j1,.slice x2 (zao n).1.2.length j2,.slice x3 0 j3,.slice a1 4 c1,.slice a2 4 c2]:=⟨_,rfl⟩
    have uY : Upto g0 X Y:=by rw [hY];exact zwp
    have dY : Below X5.heap.size X5 Y:=h.bel.trans (uY.toBelow h.bel.size hg7);have k7Y : Y.heap[g0]? = some (.cells #[.bool true,.int .i64 n,.slice (some ⟨g,0,none⟩) 0 l.length,.int .i64 0,.slice x1 (zao n).1.1.length j1,.slice x2 (zao n).1.2.length j2,.slice x3 0 j3,.slice a1 4 c1,.slice a2 4 c2] 35 (0,0)):=by rw [hY];exact zd0 k7
    have kRY:=kb0 dY kR5;have dwY : Below w.heap.size w Y:=za1 B05 dY;have hneR : w.heap.size ≠ g0:=by have:=za2 kR5;omega
    have HST : Hid (HsAt n l 0 w.heap.size g0 Y (.slice (some ⟨g,0,none⟩) 0 l.length) (.slice x1 (zao n).1.1.length j1) (.slice x2 (zao n).1.2.length j2) (.slice x3 0 j3) (.slice a1 4 c1) (.slice a2 4 c2) []) :=
      ⟨k7Y,zbd (S:=fun j=>j=g0) ow (zis uY) (fun q hq e=>zaa ow k7 (by decide) (by rw [hq,e])),⟨(op5.below dY).mono d0.size,(ob5.below dY).mono d0.size,List.Pairwise.nil⟩,rfl,
        ⟨zbd (S:=fun j=>j=g0) om.t (zis uY) (fun q hq e=>zaa om.t k7 (by decide) (by rw [hq,e])),zbd (S:=fun j=>j=g0) om.r (zis uY) (fun q hq e=>zaa om.r k7 (by decide) (by rw [hq,e]))⟩,hap0⟩
    have hfr:=h.frame [20,21,22,23,24,25,26,7] (by kernel_rfl)
    obtain ⟨f,hf⟩ : ∃ f : Nat->Value,(fun s=>a.tmps.getD s undef)=f:=⟨_,rfl⟩
    have hB7 : f 7 = .pointer (some ⟨g0,0,none⟩):=by rw [<- hf];exact eB
    rw [hf] at hfr;rw [<- hY];clear hf h hall hr hD hL eB eV eB' eV' ow om om0 hap0 k7 RMO hR R HMK HOWN hY op5 ob5 kR5 kS5;subst hfr;simp only [Act.puts,Act.put,List.setIfInBounds_toArray,List.set_cons_succ,List.set_cons_zero];rw [hB7];generalize f 20=u20;generalize f 21=u21;generalize f 22=u22;generalize f 23=u23;generalize f 24=u24;generalize f 25=u25;generalize f 26=u26;clear hB7 f
    show Exit.then _ _ _ _ _
    have HRC : Hid _:=HRD.out;have hgb : w.heap.size<=g0:=by have:=za2 kRY;have:=B05.size;omega
    go_wp2_with fail
    go_loopw [29] (fun i wr=>∃ (k : Nat) (vl v1 v2 vb m1 m2 : Value) (ms : List Bk),k<=l.length/\i = .int .i64 k/\HsAt n l k w.heap.size g0 wr vl v1 v2 vb m1 m2 ms/\wr.heap[w.heap.size]? = some (.cells #[.bool false,.int .i64 0,.slice none 0 0,.int .i64 0,.slice none 0 0,.slice none 0 0,.slice none 0 0,.slice none 0 0,.slice none 0 0] 35 (0,0))/\Below w.heap.size w wr) (fun i _=>l.length - (intOf i).toNat)
    case atStart=>exact ⟨0,_,_,_,_,_,_,_,Nat.zero_le _,rfl,HST.out,kRY,dwY⟩
    case round =>
      obtain ⟨k,vl,v1,v2,vb,m1,m2,ms,hk,rfl,hs,kRw,hb⟩:=hrel;obtain ⟨b1',f1',b2',f2',b3',f3',rfl,rfl,rfl⟩:=hs.sh.forms;obtain ⟨b4',f4',b5',f5',rfl,rfl⟩:=hs.mm.forms;obtain ⟨b0',f0',rfl⟩:=za4 hs.log;by_cases hlt : k < l.length
      · obtain ⟨o',cap',eo,hmx,hcx,-⟩:=HRC.out
        obtain ⟨gl,off,eo2,hg,a0,a1',a2',a3,a4,a5,a6,a7,a8⟩:=zd6 hcx k hlt;cases eo;subst eo2;obtain ⟨hinv,hnoted,hn1,ho1,h120⟩:=zyc HOK.out k hlt;obtain ⟨hnb,hfr⟩:=zus hinv.s hs.bs;have hfe:=HFL.out l[k] (List.getElem_mem hlt)
        obtain ⟨x,hx⟩ : ∃ x,l[k]=x:=⟨_,rfl⟩
        have HX : Hid (l[k]=x):=hx;rw [hx] at a0 a1' a2' a3 a4 a5 a6 a7 a8 hnoted hn1 ho1 hfe;clear hx;obtain ⟨W1,hW1,kE,dE,zE⟩:=zb4 wr #[.int .i64 x.sq,.int .i64 x.cl,.int .i64 x.tg,.int .i64 x.o.k,.string x.o.nm,.string x.o.ot,.int .i64 x.o.at_,.int .i64 x.o.va,.int .i64 x.o.ep] 39;have HW1 : Hid (W1 = _):=hW1;have hs1:=hs.below dE;have kR1:=kb0 dE kRw;have hb1 : Below w.heap.size w W1:=za1 hb dE;have hv1:=hv.below hb1;replace a0:=(hb.cell (p:=⟨gl,off+k * 9,none⟩) hg).trans a0;replace a1':=(hb.cell (p:=⟨gl,off+k * 9+1,none⟩) hg).trans a1';replace a2':=(hb.cell (p:=⟨gl,off+k * 9+2,none⟩) hg).trans a2';replace a3:=(hb.cell (p:=⟨gl,off+k * 9+3,none⟩) hg).trans a3;replace a4:=(hb.cell (p:=⟨gl,off+k * 9+4,none⟩) hg).trans a4;replace a5:=(hb.cell (p:=⟨gl,off+k * 9+5,none⟩) hg).trans a5;replace a6:=(hb.cell (p:=⟨gl,off+k * 9+6,none⟩) hg).trans a6;replace a7:=(hb.cell (p:=⟨gl,off+k * 9+7,none⟩) hg).trans a7;replace a8:=(hb.cell (p:=⟨gl,off+k * 9+8,none⟩) hg).trans a8;have HRO:=zwo hs1 hlt HX.out kR1 hneR hgb;have HLN : Hid (∀ w6,Only (fun j=>(Value.slice b0' (l.take k).length f0').ownBlock=some j) W1 w6->w6.heap[g0]? = W1.heap[g0]?):=fun w6 on=>on.block g0 (za2 hs1.box) (hs1.log_not hs1.box)
        have kbx:=hs1.box;have hgr:=zur true n 0 _ _ _ _ _ _ (l.take k) ms (rpFrom (rpNew n) (l.take k)) x w.heap.size W1 ad hv1 h120 hinv hs.bs hnoted hfe hnb hfr hn1 ho1 hb1.size hs1.log hs1.sh.reads hs1.mm.reads;have i0' : (0 : Int)<=(k : Int):=by omega
        have i1' : (k : Int) < (l.length : Int):=by omega
        clear hs1 hs hinv hnb hfr hnoted hfe hn1 ho1 h120;generalize rpFrom (rpNew n) (l.take k)=st at *;generalize l.take k=L at *;have HRQ : Hid _:=HRO;clear HRO;obtain ⟨c0,c1,c2,c3,c4,c5,c6,c7,c8⟩:=cq9 kbx;obtain ⟨e0,e1,e2,e3,e4,e5,e6,e7,e8⟩:=cq9 kE;clear hW1 hcx hmx HRC
        go_upto_region 8 with fail
        rw [<- HW1.out];clear HW1 a0 a1' a2' a3 a4 a5 a6 a7 a8
        go_wp2_with fail
        refine hgr.mono ?_;rintro e w6 ⟨vl',q1,q2,qb,r1,r2,ms2,rfl,own6,os6,hms6,om6,ap6,on6⟩;have kb6:=(HLN.out w6 on6).trans kbx
        obtain ⟨W7,hW7⟩ : ∃ W7 : World,W7=(((((((((w6.setCell ⟨g0,0,none⟩ (.bool true)).setCell ⟨g0,1,none⟩ (.int .i64 n)).setCell ⟨g0,2,none⟩ vl').setCell ⟨g0,3,none⟩ (.int .i64 0)).setCell ⟨g0,4,none⟩ q1).setCell ⟨g0,5,none⟩ q2).setCell ⟨g0,6,none⟩ qb).setCell ⟨g0,7,none⟩ r1).setCell ⟨g0,8,none⟩ r2):=⟨_,rfl⟩
        have HF : Hid _:=HRQ.out w6 W7 vl' q1 q2 qb r1 r2 ms2 own6 os6 hms6 om6 ap6 on6 hW7;have HW7 : Hid (W7 = _):=hW7;obtain ⟨y1,z1,y2,z2,y3,z3,rfl,rfl,rfl⟩:=os6.forms;obtain ⟨y4,z4,y5,z5,rfl,rfl⟩:=om6.forms;have own7 : w6.ownsRow w.heap.size 39 9 vl' (L.length+1) ((L ++ [x]).flatMap zbs):=by rw [List.length_append,List.length_singleton] at own6;exact own6
        obtain ⟨yl,zl,rfl⟩:=za4 own7;obtain ⟨f0,f1,f2,f3,f4,f5,f6,f7,f8⟩:=oq9 kb6;obtain ⟨p0,p1,p2,p3,p4,p5,p6,p7,p8⟩:=cq9 kb6;clear hgr HRQ HLN HX hW7 own7 own6 os6 hms6 om6 ap6 on6 kb6 c0 c1 c2 c3 c4 c5 c6 c7 c8 e0 e1 e2 e3 e4 e5 e6 e7 e8 kbx kR1 kRw kE dE
        go_upto_region 9 with fail
        rw [<- HW7.out];clear HW7 f0 f1 f2 f3 f4 f5 f6 f7 f8 p0 p1 p2 p3 p4 p5 p6 p7 p8
        go_wp2_with fail
        go_roundw
        case rel=>exact ⟨k+1,_,_,_,_,_,_,_,by omega,by go_num,HF.out.1,HF.out.2.1,hb1.trans HF.out.2.2⟩
        case measure=>simp [intOf];omega
      · obtain rfl : k=l.length:=by omega
        have et : l.take l.length=l:=List.take_length;have hlog:=hs.log;have hsh:=hs.sh;have hbs:=hs.bs;have hmm:=hs.mm;have kbx:=hs.box;have kbn:=hs.log_not kRw;have hap1:=hs.ap;clear hs;rw [et] at hlog hsh hbs hmm kbx kbn hap1
        obtain ⟨st,hst⟩ : ∃ st,rpFrom (rpNew n) l=st:=⟨_,rfl⟩
        rw [hst] at hsh hbs hmm kbx hap1;have HAPE : Hid _:=hap1;clear hap1;have HSQ : Hid (rpFrom (rpNew n) l=st):=hst;clear hst
        obtain ⟨V,hV⟩ : ∃ V : World,V=(((((((((wr.setCell ⟨w.heap.size,0,none⟩ (.bool true)).setCell ⟨w.heap.size,1,none⟩ (.int .i64 n)).setCell ⟨w.heap.size,2,none⟩ (.slice b0' l.length f0')).setCell ⟨w.heap.size,3,none⟩ (.int .i64 0)).setCell ⟨w.heap.size,4,none⟩ (.slice b1' st.s.cs.length f1')).setCell ⟨w.heap.size,5,none⟩ (.slice b2' st.s.ps.length f2')).setCell ⟨w.heap.size,6,none⟩ (.slice b3' ms.length f3')).setCell ⟨w.heap.size,7,none⟩ (.slice b4' st.ts.length f4')).setCell ⟨w.heap.size,8,none⟩ (.slice b5' st.rs.length f5')):=⟨_,rfl⟩
        have HV : Hid (V = _):=hV;have HE : Hid _:=zhi kRw (.bool true) (.int .i64 n) (.slice b0' l.length f0') (.int .i64 0) (.slice b1' st.s.cs.length f1') (.slice b2' st.s.ps.length f2') (.slice b3' ms.length f3') (.slice b4' st.ts.length f4') (.slice b5' st.rs.length f5') hV;have uV:=HE.out.2;have HF : Hid _:=And.intro (zbd (S:=fun j=>j=w.heap.size) hlog (zis uV) (fun q hq e=>zaa hlog kRw (by decide) (by rw [hq,e]))) (And.intro (hsh.box kRw uV (by decide) (by decide) (by decide)) (And.intro hbs (And.intro (And.intro (zbd (S:=fun j=>j=w.heap.size) hmm.t (zis uV) (fun q hq e=>zaa hmm.t kRw (by decide) (by rw [hq,e]))) (zbd (S:=fun j=>j=w.heap.size) hmm.r (zis uV) (fun q hq e=>zaa hmm.r kRw (by decide) (by rw [hq,e])))) (hb.trans (uV.toBelow hb.size (Nat.le_refl _))))));obtain ⟨c0,c1,c2,c3,c4,c5,c6,c7,c8⟩:=cq9 kbx;obtain ⟨p0,p1,p2,p3,p4,p5,p6,p7,p8⟩:=cq9 kRw;obtain ⟨f0,f1,f2,f3,f4,f5,f6,f7,f8⟩:=oq9 kRw;clear hV uV hlog hsh hmm kbx kbn kRw HRC hbs hb
        go_wp2_with fail
        rw [<- HV.out];refine bodyPost_ret (v:=.agg #[.bool true,.int .i64 n,.slice b0' l.length f0',.int .i64 0,.slice b1' st.s.cs.length f1',.slice b2' st.s.ps.length f2',.slice b3' ms.length f3',.slice b4' st.ts.length f4',.slice b5' st.rs.length f5']) (by simp [results,Tryz.results66,go_sem,za0 HE.out.1]) rfl ?_;rw [HSQ.out];exact ⟨.slice b0' l.length f0',.slice b1' st.s.cs.length f1',.slice b2' st.s.ps.length f2',.slice b3' ms.length f3',.slice b4' st.ts.length f4',.slice b5' st.rs.length f5',ms,rfl,HF.out.1,HF.out.2.1,HF.out.2.2.1,⟨HF.out.2.2.2.1.1,HF.out.2.2.2.1.2⟩,HAPE.out,HF.out.2.2.2.2⟩
end Go.Proofs.YtfkkapdofjhgpaaGreatDoor
namespace Go.Proofs.YtfkkapdofjhgpaaGreatDoor
open Go.RowKit
set_option linter.unusedVariables false
set_option maxRecDepth 100000
set_option linter.unusedSimpArgs false
theorem VarB.below {w w' : World} {ab : Addr} (h : VarB w ab) (b : Below w.heap.size w w') : VarB w' ab:=(b.cell (p:=⟨0,0,none⟩) (zf8 h)).trans h
theorem zs7 (n : Int) (v : Value) (l : List Ent) (w : World) (ab : Addr) (hb : VarB w ab) (hf : ze0 l) (hok : ze3 n l=false) (r : ReadsR 9 zbs w.heap.size w v l) :
    Calls Tryz.prog 66 #[.int .i64 n,v] w fun e w'=>e = .panicked [{ v:=.iface 334 (.pointer (some ab)),recovered:=false }]/\Below w.heap.size w w':=by
  obtain ⟨o,cap,rfl⟩:=r.form;have HOK : Hid (ze3 n l=false):=hok;obtain ⟨W0,hW0,kR,d0,z0⟩:=zb4 w #[.bool false,.int .i64 0,.slice none 0 0,.int .i64 0,.slice none 0 0,.slice none 0 0,.slice none 0 0,.slice none 0 0,.slice none 0 0] 35;have HW0 : Hid (W0 = _):=hW0;have r0:=(r.below d0).mono d0.size;have hns:=zfy n W0;have hb0:=hb.below d0;rw [zm7] at hns;clear hW0 hok r
  go_enter Tryz.func66,Tryz.ntmps66
  go_upto_region 1 with fail
  rw [<- HW0.out];clear HW0;cases hi : inB n 1 24
  · rw [hi] at hns
    go_upto_region 2 with (go_at_call 127;refine hns.mono ?_;rintro e w1 ⟨u1,u2,ub,rfl,op,ob,b1⟩;obtain ⟨x1,j1,rfl⟩:=za4 op.c;obtain ⟨x2,j2,rfl⟩:=za4 op.p;have ob0 : w1.ownsRow W0.heap.size 117 5 ub 0 []:=ob.row;obtain ⟨x3,j3,rfl⟩:=za4 ob0)
    obtain ⟨W2,hW2,kS,d2,z2⟩:=zb4 w1 #[.slice x1 (zao n).1.1.length j1,.slice x2 (zao n).1.2.length j2,.slice x3 0 j3] 30;have HW2 : Hid (W2 = _):=hW2;have B02:=za1 b1 d2;have hb2:=hb0.below B02;have B2:=za1 d0 B02;rw [<- HW2.out];clear HW2 hW2 hns ob0 op ob hb hb0 kS r0
    go_wp2_with fail
    refine (zsd ab _ hb2).mono ?_;rintro e X3 ⟨rfl,rfl⟩
    go_wp2_with fail
    exact ⟨rfl,rfl,B2⟩
  · rw [hi] at hns
    have hlo : logOk l=false:=by
      have:=HOK.out;rw [ze3,hi,Bool.true_and] at this;exact this
    go_upto_region 2 with (go_at_call 127;refine hns.mono ?_;rintro e w1 ⟨u1,u2,ub,rfl,op,ob,b1⟩;obtain ⟨x1,j1,rfl⟩:=za4 op.c;obtain ⟨x2,j2,rfl⟩:=za4 op.p;have ob0 : w1.ownsRow W0.heap.size 117 5 ub 0 []:=ob.row;obtain ⟨x3,j3,rfl⟩:=za4 ob0)
    obtain ⟨W2,hW2,kS,d2,z2⟩:=zb4 w1 #[.slice x1 (zao n).1.1.length j1,.slice x2 (zao n).1.2.length j2,.slice x3 0 j3] 30;have HW2 : Hid (W2 = _):=hW2;have B02:=za1 b1 d2;have hb2:=hb0.below B02;have B2:=za1 d0 B02;have r2:=(r0.below B02).mono B02.size;have hlg:=zht _ l W2 hf r2;rw [hlo] at hlg;rw [<- HW2.out];clear HW2 hW2 hns ob0 op ob hb hb0 kS r0
    go_upto_region 3 with (go_at_call 119;refine (zid _).mono ?_;rintro e X3 ⟨rfl,rfl⟩)
    go_wp2_with fail
    refine hlg.mono ?_;rintro e w4 ⟨rfl,b5⟩;have hb5:=hb2.below b5
    go_wp2_with fail
    refine (zsd ab _ hb5).mono ?_;rintro e X5 ⟨rfl,rfl⟩
    go_wp2_with fail
    exact ⟨rfl,rfl,za1 B2 b5⟩
end Go.Proofs.YtfkkapdofjhgpaaGreatDoor
namespace Go.Proofs.YtfkkapdofjhgpaaGreatDoor
open Go.RowKit
set_option linter.unusedVariables false
set_option maxRecDepth 100000
structure Slv where
  o : Option Addr
  n : Nat
  c : Nat
structure Hv where
  up : Bool
  pg : Int
  lg : Slv
  ak : Int
  c : Slv
  p : Slv
  b : Slv
  t : Slv
  r : Slv
def Slv.v (s : Slv) : Value:=.slice s.o s.n s.c
def Hv.cells (h : Hv) : Array Value:=#[.bool h.up,.int .i64 h.pg,.slice h.lg.o h.lg.n h.lg.c,.int .i64 h.ak,.slice h.c.o h.c.n h.c.c,.slice h.p.o h.p.n h.p.c,.slice h.b.o h.b.n h.b.c,.slice h.t.o h.t.n h.t.c,.slice h.r.o h.r.n h.r.c]
def zyi (Q : Hv->World->Prop) (G : Prop) (W : World) (e : Ending) (w' : World) : Prop :=
  Below W.heap.size W w'/\((∃ h : Hv,e = .returned (.agg h.cells)/\Q h w')\/(∃ (u : TypeId) (pv : Value),e = .panicked [{ v:=.iface u pv,recovered:=false }]/\G))
def zwq (Q : Hv->World->Prop) (G : Prop) (w : World) (e : Ending) (w' : World) : Prop :=
  Below w.heap.size w w'/\((∃ (h : Hv) (W1 : World),e = .returned (.tuple #[.agg h.cells,.bool true])/\Q h W1/\Only (fun k=>k=w.heap.size\/k=w.heap.size+1) W1 w'/\w.heap.size+1+1<=W1.heap.size/\Below w.heap.size w W1)\/(e = .returned (.tuple #[.agg hz9,.bool false])/\G))
theorem znr (x0 x1 x2 x3 x4 x5 x6 x7 x8 z0 z1 z2 z3 z4 z5 z6 z7 z8 : Value) : (((((((((#[x0,x1,x2,x3,x4,x5,x6,x7,x8].setIfInBounds 0 z0).setIfInBounds 1 z1).setIfInBounds 2 z2).setIfInBounds 3 z3).setIfInBounds 4 z4).setIfInBounds 5 z5).setIfInBounds 6 z6).setIfInBounds 7 z7).setIfInBounds 8 z8) = #[z0,z1,z2,z3,z4,z5,z6,z7,z8]:=by
  apply Array.toList_inj.1
  simp only [Array.toList_setIfInBounds,List.set_cons_zero,List.set_cons_succ]
theorem zut {w w1 : World} {b c : Nat} {x0 x1 x2 x3 x4 x5 x6 x7 x8 y : Value} (kb : w1.heap[b]? = some (.cells #[x0,x1,x2,x3,x4,x5,x6,x7,x8] 35 (0,0))) (kc : w1.heap[c]? = some (.cells #[y] 4 (0,0))) (hbc : ¬ c=b) (hb : w.heap.size<=b) (hc : w.heap.size<=c) (d : Below w.heap.size w w1) :
    (zn9 b c w1).heap[b]? = some (.cells hz9 35 (0,0))/\(zn9 b c w1).heap[c]? = some (.cells #[.bool false] 4 (0,0))/\Below w.heap.size w (zn9 b c w1):=by
  have k1:=(zab (zab (zab (zab (zab (zab (zab (zab (zab kb 0 (.bool false)) 1 (.int .i64 0)) 2 (.slice none 0 0)) 3 (.int .i64 0)) 4 (.slice none 0 0)) 5 (.slice none 0 0)) 6 (.slice none 0 0)) 7 (.slice none 0 0)) 8 (.slice none 0 0))
  rw [znr] at k1;have d1:=((((((((d.setCell (p:=⟨b,0,none⟩) hb (.bool false)).setCell (p:=⟨b,1,none⟩) hb (.int .i64 0)).setCell (p:=⟨b,2,none⟩) hb (.slice none 0 0)).setCell (p:=⟨b,3,none⟩) hb (.int .i64 0)).setCell (p:=⟨b,4,none⟩) hb (.slice none 0 0)).setCell (p:=⟨b,5,none⟩) hb (.slice none 0 0)).setCell (p:=⟨b,6,none⟩) hb (.slice none 0 0)).setCell (p:=⟨b,7,none⟩) hb (.slice none 0 0)).setCell (p:=⟨b,8,none⟩) hb (.slice none 0 0);have o : ∀ (X : World) (i : Nat) (v : Value),(X.setCell ⟨b,i,none⟩ v).heap[c]? = X.heap[c]?:=fun X i v=>Below.heap_setCell X ⟨b,i,none⟩ v c (fun e=>hbc e)
  have kc1:=(o _ 8 (.slice none 0 0)).trans ((o _ 7 (.slice none 0 0)).trans ((o _ 6 (.slice none 0 0)).trans ((o _ 5 (.slice none 0 0)).trans ((o _ 4 (.slice none 0 0)).trans ((o _ 3 (.int .i64 0)).trans ((o _ 2 (.slice none 0 0)).trans ((o _ 1 (.int .i64 0)).trans ((o w1 0 (.bool false)).trans kc))))))));refine ⟨(Below.heap_setCell _ ⟨c,0,none⟩ _ b (fun e=>hbc e.symm)).trans k1,zab kc1 0 (.bool false),d1.setCell (p:=⟨c,0,none⟩) hc (.bool false)⟩
theorem zuu {w w1 : World} {b c : Nat} {x0 x1 x2 x3 x4 x5 x6 x7 x8 y : Value} (h : Hv) (kb : w1.heap[b]? = some (.cells #[x0,x1,x2,x3,x4,x5,x6,x7,x8] 35 (0,0))) (kc : w1.heap[c]? = some (.cells #[y] 4 (0,0))) (hbc : ¬ c=b) (hb : w.heap.size<=b) (hc : w.heap.size<=c) (d : Below w.heap.size w w1) :
    ∃ W,W=((((((((((w1.setCell ⟨b,0,none⟩ (.bool h.up)).setCell ⟨b,1,none⟩ (.int .i64 h.pg)).setCell ⟨b,2,none⟩ (.slice h.lg.o h.lg.n h.lg.c)).setCell ⟨b,3,none⟩ (.int .i64 h.ak)).setCell ⟨b,4,none⟩ (.slice h.c.o h.c.n h.c.c)).setCell ⟨b,5,none⟩ (.slice h.p.o h.p.n h.p.c)).setCell ⟨b,6,none⟩ (.slice h.b.o h.b.n h.b.c)).setCell ⟨b,7,none⟩ (.slice h.t.o h.t.n h.t.c)).setCell ⟨b,8,none⟩ (.slice h.r.o h.r.n h.r.c)).setCell ⟨c,0,none⟩ (.bool true)) /\
      W.heap[b]? = some (.cells h.cells 35 (0,0))/\W.heap[c]? = some (.cells #[.bool true] 4 (0,0))/\Below w.heap.size w W/\Only (fun k=>k=b\/k=c) w1 W:=by
  have k1:=(zab (zab (zab (zab (zab (zab (zab (zab (zab kb 0 (.bool h.up)) 1 (.int .i64 h.pg)) 2 (.slice h.lg.o h.lg.n h.lg.c)) 3 (.int .i64 h.ak)) 4 (.slice h.c.o h.c.n h.c.c)) 5 (.slice h.p.o h.p.n h.p.c)) 6 (.slice h.b.o h.b.n h.b.c)) 7 (.slice h.t.o h.t.n h.t.c)) 8 (.slice h.r.o h.r.n h.r.c))
  rw [znr] at k1;have o : ∀ (X : World) (i : Nat) (v : Value),(X.setCell ⟨b,i,none⟩ v).heap[c]? = X.heap[c]?:=fun X i v=>Below.heap_setCell X ⟨b,i,none⟩ v c (fun e=>hbc e)
  have kc1:=(o _ 8 (.slice h.r.o h.r.n h.r.c)).trans ((o _ 7 (.slice h.t.o h.t.n h.t.c)).trans ((o _ 6 (.slice h.b.o h.b.n h.b.c)).trans ((o _ 5 (.slice h.p.o h.p.n h.p.c)).trans ((o _ 4 (.slice h.c.o h.c.n h.c.c)).trans ((o _ 3 (.int .i64 h.ak)).trans ((o _ 2 (.slice h.lg.o h.lg.n h.lg.c)).trans ((o _ 1 (.int .i64 h.pg)).trans ((o w1 0 (.bool h.up)).trans kc))))))));have u:=((((((((((Only.refl (fun k=>k=b\/k=c) w1).setCell ⟨b,0,none⟩ (.inl rfl) (.bool h.up)).setCell ⟨b,1,none⟩ (.inl rfl) (.int .i64 h.pg)).setCell ⟨b,2,none⟩ (.inl rfl) (.slice h.lg.o h.lg.n h.lg.c)).setCell ⟨b,3,none⟩ (.inl rfl) (.int .i64 h.ak)).setCell ⟨b,4,none⟩ (.inl rfl) (.slice h.c.o h.c.n h.c.c)).setCell ⟨b,5,none⟩ (.inl rfl) (.slice h.p.o h.p.n h.p.c)).setCell ⟨b,6,none⟩ (.inl rfl) (.slice h.b.o h.b.n h.b.c)).setCell ⟨b,7,none⟩ (.inl rfl) (.slice h.t.o h.t.n h.t.c)).setCell ⟨b,8,none⟩ (.inl rfl) (.slice h.r.o h.r.n h.r.c)).setCell ⟨c,0,none⟩ (.inr rfl) (.bool true);exact ⟨_,rfl,(Below.heap_setCell _ ⟨c,0,none⟩ _ b (fun e=>hbc e.symm)).trans k1,zab kc1 0 (.bool true),d.trans (u.toBelow d.size (fun k hk=>by rcases hk with q | q <;> omega)),u⟩
theorem zwr (caps : Array Value) (Q : Hv->World->Prop) (G : Prop) (w : World) (hc : ∀ W,Below w.heap.size w W->w.heap.size+1+1<=W.heap.size->Calls Tryz.prog 80 caps W (zyi Q G W)) :
    Calls Tryz.prog 59 #[.func (.func 80) #[] caps] w (zwq Q G w):=by
  have hmf : ∀ (fn : Fn) (first cap : Array Value) (w : World),(Instr.makeFunc fn first cap).run Tryz.prog w = .ok (.func fn first cap) w:=fun _ _ _ _=>rfl
  obtain ⟨W0,hW0,k0,k1,d0,z0⟩:=zc7 w hz9 #[.bool false] 35 4;unfold hz9 at hW0 k0;have HW0 : Hid (W0 = _):=hW0;have hcc:=hc W0 d0 (by omega);have HC : Hid _:=hcc;clear hW0 hc hcc
  go_enter_defers Tryz.func59,Tryz.ntmps59
  go_wp2_with (go_at_call 80;rw [<- HW0.out];refine Calls.mono HC.out ?_)
  rintro e w1 ⟨b1,⟨h,rfl,hq⟩ | ⟨u,pv,rfl,hg⟩⟩
  · have kb:=kb0 b1 k0
    have kc:=kb0 b1 k1;obtain ⟨W,hW,j0,j1,dW,uW⟩:=zuu (w:=w) h kb kc (by omega) (Nat.le_refl _) (by omega) (za1 d0 b1);have HW : Hid (W = _):=hW
    have HE : Hid (zwq Q G w (.returned (.tuple #[.agg h.cells,.bool true])) W):=⟨dW,.inl ⟨h,w1,rfl,hq,uW,by have:=b1.size;omega,za1 d0 b1⟩⟩
    obtain ⟨q0,q1,q2,q3,q4,q5,q6,q7,q8⟩:=cq9 kb;obtain ⟨f0,f1,f2,f3,f4,f5,f6,f7,f8⟩:=oq9 kb;have qc:=za0 kc 0;have fc:=za8 kc 0;clear hW k0 k1 d0 z0 HC b1 hq dW uW kb kc;unfold Hv.cells
    go_wp2_with fail
    refine leaves_cons (f:=118) (args:=#[.pointer (some ⟨w.heap.size,0,none⟩),.pointer (some ⟨w.heap.size+1,0,none⟩)]) (by simp) (by simp [go_sem]) ?_;rw [<- HW.out];refine (zsy ⟨w.heap.size,0,none⟩ ⟨w.heap.size+1,0,none⟩ _).mono ?_;rintro e u' w'' ⟨rfl,rfl,rfl⟩;obtain ⟨a0,a1,a2,a3,a4,a5,a6,a7,a8⟩:=cq9 j0;have ac:=za0 j1 0;unfold Hv.cells at a0 a1 a2 a3 a4 a5 a6 a7 a8;simp [Leaves,settle,results,Tryz.results59,go_sem,a0,a1,a2,a3,a4,a5,a6,a7,a8,ac];exact HE.out
  · have kb:=kb0 b1 k0
    have kc:=kb0 b1 k1;obtain ⟨j0,j1,dW⟩:=zut (w:=w) kb kc (by omega) (Nat.le_refl _) (by omega) (za1 d0 b1)
    have HE : Hid (zwq Q G w (.returned (.tuple #[.agg hz9,.bool false])) (zn9 w.heap.size (w.heap.size+1) w1)):=⟨dW,.inr ⟨rfl,hg⟩⟩
    clear k0 k1 d0 z0 HC b1 dW
    go_wp2_with fail
    refine leaves_cons (f:=118) (args:=#[.pointer (some ⟨w.heap.size,0,none⟩),.pointer (some ⟨w.heap.size+1,0,none⟩)]) (by simp) (by simp [go_sem]) ?_;refine (zkz w.heap.size (w.heap.size+1) _ _ _ _ _ _ _ _ _ _ u pv [] _ kb kc (by omega)).mono ?_;rintro e u' w'' ⟨rfl,rfl,rfl⟩;obtain ⟨a0,a1,a2,a3,a4,a5,a6,a7,a8⟩:=cq9 j0;have ac:=za0 j1 0;unfold hz9 at a0 a1 a2 a3 a4 a5 a6 a7 a8;simp [Leaves,settle,results,Tryz.results59,go_sem,a0,a1,a2,a3,a4,a5,a6,a7,a8,ac];exact HE.out
end Go.Proofs.YtfkkapdofjhgpaaGreatDoor
