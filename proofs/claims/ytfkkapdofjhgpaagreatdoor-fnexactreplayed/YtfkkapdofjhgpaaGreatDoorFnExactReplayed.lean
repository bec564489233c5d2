/-
  The law FnExactReplayed answers true at every input that the row speaks of, its arguments and the named variables read afterwards as before; the listed variables are tied to the program's text; the walk goes over the callees' contracts.
-/
import Derived.Test.YtfkkapdofjhgpaaGreatDoorRows
import Derived.Test.YtfkkapdofjhgpaaGreatDoorTie
import Derived.Test.YtfkkapdofjhgpaaGreatDoorCards
import Derived.SevenTiedAt
import Derived.JoinedOf
import Derived.OpenVars
import Derived.WalkKit
import Derived.ProofKit
import Derived.OpenShut
import Derived.ChangeOld
import Derived.Below
import Derived.Carry
import Derived.Test.YtfkkapdofjhgpaaGreatDoorM07
import Derived.Test.YtfkkapdofjhgpaaGreatDoorM23
import Derived.Test.YtfkkapdofjhgpaaGreatDoorM41
import Derived.Test.YtfkkapdofjhgpaaGreatDoorM43
import Derived.Test.YtfkkapdofjhgpaaGreatDoorM44
namespace Go.Proofs.YtfkkapdofjhgpaaGreatDoor.fnExactReplayed
open Go Go.ChangeShapes Go.WideShapes Go.ChangeAt Go.RowKit
set_option linter.unusedVariables false
theorem own : ownKnob Tryz.prog.godebug=none:=by kernel_rfl
theorem laidOut : laidOutB Tryz.prog=true:=by kernel_rfl
theorem vars_length {H : Type} {enc : TypeId × Value->H} {P : Program} {w : World} {sp : Nat->Bool} : ∀ {ns : List String} {gs : List (DataW H)} {ps : List MemPlace},DataW.TrodVars enc P w sp ns gs ps->gs.length=ns.length
  | [],[],_,_=>rfl
  | [],_ :: _,_,h=>h.elim
  | _ :: _,[],_,h=>h.elim
  | n :: ns,d :: ds,_,h=>by
    obtain ⟨_,_,_,_,_,_,_,_,_,_,h',_⟩:=h;simp [vars_length h']
set_option maxRecDepth 100000 in
set_option maxHeartbeats 8000000 in
theorem walk (a0 : Int) (v1 : Value) (xs1 : List Ent) (w : World) (w0 : (Lit.int .i64 a0).wf=true) (w1 : ReadsR 9 zbs w.heap.size w v1 xs1) (z1 : ze0 xs1) (ad : Nat->Addr) (hvs : VarsS w ad) (hvb : VarB w (ad 0)) :
    Calls Tryz.prog 5 #[.int .i64 a0,v1] w fun e w'=>e = .returned (.bool true)/\Below w.heap.size w w':=by
  have D : Below w.heap.size w w:=Below.refl _ _;obtain ⟨ov,cv,rfl⟩:=w1.form;have HR0 : Hid (ReadsR 9 zbs w.heap.size w (.slice ov xs1.length cv) xs1):=w1
  obtain ⟨⟨st,ok⟩,hn⟩ : ∃ x,zbu a0 xs1=x:=⟨_,rfl⟩
  have HN : Hid (zbu a0 xs1=(st,ok)):=hn;have hl:=zol a0 xs1;rw [hn] at hl;obtain ⟨h1,h2,h3,h4,h5,h6⟩:=hl;simp only at h1 h2 h3 h4 h5 h6
  have HL : Hid (st.s.cs.length<=24/\st.s.ps.length<=24/\st.ts.length<=4/\st.rs.length<=4):=⟨h1,h2,h3,h4⟩
  have HB : Hid (st.s.bs.length<=6/\∀ b ∈ st.s.bs,b.rs.length<=16):=⟨h5,h6⟩
  have HZ : Hid (ze0 xs1):=z1;have hnv : (ok != ok)=false:=by cases ok <;> rfl
  have HVS : Hid _:=hvs;have HVB : Hid _:=hvb;clear hn h1 h2 h3 h4 h5 h6 z1 w1 hvs hvb;have hme : ¬ 1+9 * (xs1.length : Int) < 0:=by omega
  go_enter Tryz.func5,Tryz.ntmps5
  go_wp2_with fail
  refine (zn1 _ xs1 1048576 _ (by omega) (by omega) HZ.out HR0.out).mono ?_;rintro e wb ⟨q,rfl,hq,b⟩;replace D:=za1 D b;clear b
  rcases hq with rfl | ⟨hq0,hq1,hb1⟩
  · go_wp2_with fail
    go_ret;exact ⟨rfl,D⟩
  have HLN : Hid (xs1.length<=1048576):=hb1;clear hq1 hb1
  go_wp2_with fail
  refine (zed _ xs1 _ HLN.out ((ReadsR.below HR0.out D).mono D.size)).mono ?_;rintro e wc ⟨rfl,ot,b⟩;replace D:=za1 D b;clear b
  go_wp2_with fail
  have hsp:=zjf a0 _ xs1 _ HZ.out (ReadsR.of_own zay ot);rw [HN.out] at hsp
  dsimp only at hsp
  refine hsp.mono ?_;clear hsp ot;rintro e wd ⟨u1,u2,ub,t1,t2,rfl,od,om,b⟩;obtain ⟨ms,ob,hbs⟩:=od.b;obtain ⟨o1s,c1s,rfl⟩:=za4 od.p.c;obtain ⟨o2s,c2s,rfl⟩:=za4 od.p.p;obtain ⟨o3s,c3s,rfl⟩:=za4 ob.row;obtain ⟨o4s,c4s,o5s,c5s,rfl,rfl⟩:=om.forms
  have rS : RS wd.heap.size wd (.slice o1s st.s.cs.length c1s) (.slice o2s st.s.ps.length c2s) (.slice o3s ms.length c3s) st.s.cs st.s.ps ms:=⟨od.p.reads,ob.reads⟩
  have rM:=om.reads;have HBS : Hid (ms.map Bk.pb=st.s.bs):=hbs;clear od ob om hbs;replace D:=za1 D b;clear b;obtain ⟨W2,hW2,kS,kM,b,z2⟩:=zc7 wd #[.slice o1s st.s.cs.length c1s,.slice o2s st.s.ps.length c2s,.slice o3s ms.length c3s] #[.slice o4s st.ts.length c4s,.slice o5s st.rs.length c5s] 30 33;have HW2 : Hid (W2 = _):=hW2;replace rS:=(rS.below b).mono b.size;replace rM:=(rM.below b).mono b.size;have lB : W2.heap.size<=W2.heap.size:=Nat.le_refl _;replace D:=za1 D b;have HKS : Hid (wd.heap.size < W2.heap.size/\wd.heap.size+1 < W2.heap.size):=by rw [Hid];omega
  have HWB : Hid (w.heap.size<=W2.heap.size):=D.size;clear hW2 b z2
  go_upto_region 6 with fail
  rw [<- HW2.out];clear HW2
  go_wp2_with fail
  refine (zed _ xs1 _ HLN.out ((ReadsR.below HR0.out D).mono D.size)).mono ?_;rintro e w3 ⟨rfl,ox,b⟩;replace kS:=kb0 b kS;replace kM:=kb0 b kM;replace rS:=rS.below (b.mono lB);replace rM:=rM.below (b.mono lB);replace lB:=Nat.le_trans lB b.size;replace D:=za1 D b;clear b;have HX : Hid (W2.heap.size < w3.heap.size):=(ox.lt _ rfl).2
  go_wp2_with fail
  have him:=zfz a0 _ xs1 w3 ad _ (HVS.out.below D) (VarB.below HVB.out D) HZ.out (ReadsR.of_own zay ox);rw [HN.out] at him
  dsimp only at him
  refine him.mono ?_;clear him;rintro e w4g ⟨u1,u2,ub,t1,t2,mg,rfl,og,hbs,omg,ap,b⟩;obtain ⟨o1g,c1g,o2g,c2g,o3g,c3g,rfl,rfl,rfl⟩:=og.forms;obtain ⟨o4g,c4g,o5g,c5g,rfl,rfl⟩:=omg.forms;have HBg : Hid (mg.map Bk.pb=st.s.bs):=hbs;have HAPg : Hid _:=ap;have HKGg : Hid (w3.heap.size<=w4g.heap.size):=b.size;clear hbs ap;replace kS:=kb0 b kS;replace kM:=kb0 b kM;replace rS:=rS.below (b.mono lB);replace rM:=rM.below (b.mono lB);replace ox:=za9 ox b;replace lB:=Nat.le_trans lB b.size;replace D:=za1 D b;clear b;obtain ⟨W5,hW,kG,kH,b,z⟩:=zc7 w4g #[.slice o1g st.s.cs.length c1g,.slice o2g st.s.ps.length c2g,.slice o3g mg.length c3g] #[.slice o4g st.ts.length c4g,.slice o5g st.rs.length c5g] 30 33;have HW : Hid (W5 = _):=hW;have LGXg : w3.heap.size<=W5.heap.size:=Nat.le_trans HKGg.out b.size;replace og:=og.below b;replace omg:=omg.below b;clear hW z;replace kS:=kb0 b kS;replace kM:=kb0 b kM;replace rS:=rS.below (b.mono lB);replace rM:=rM.below (b.mono lB);replace ox:=za9 ox b;replace lB:=Nat.le_trans lB b.size;replace D:=za1 D b;clear b;have lG : w3.heap.size<=W5.heap.size:=LGXg
  go_upto_region 8 with fail
  rw [<- HW.out];clear HW;obtain ⟨p0,p1,p2⟩:=cq3 kG;obtain ⟨q0,q1,q2⟩:=cq3 kS
  go_wp2_with fail
  clear p0 p1 p2;clear q0 q1 q2;refine (zgb (.slice o1g st.s.cs.length c1g) (.slice o2g st.s.ps.length c2g) (.slice o3g mg.length c3g) (.slice o1s st.s.cs.length c1s) (.slice o2s st.s.ps.length c2s) (.slice o3s ms.length c3s) st.s.cs st.s.ps mg ms _ (zh2 (HBS.out.trans HBg.out.symm)) og.reads (rS.mono lB)).mono ?_;rintro e wq1 ⟨rfl,b⟩;replace kS:=kb0 b kS;replace kM:=kb0 b kM;replace rS:=rS.below (b.mono lB);replace rM:=rM.below (b.mono lB);replace ox:=za9 ox b;replace kG:=kb0 b kG;replace kH:=kb0 b kH;replace og:=og.below b;replace omg:=omg.below b;replace lB:=Nat.le_trans lB b.size;replace lG:=Nat.le_trans lG b.size;replace D:=za1 D b;clear b;obtain ⟨p0,p1⟩:=cq2 kH;obtain ⟨q0,q1⟩:=cq2 kM
  go_wp2_with fail
  clear p0 p1;clear q0 q1;refine (zi1 (.slice o4g st.ts.length c4g) (.slice o5g st.rs.length c5g) (.slice o4s st.ts.length c4s) (.slice o5s st.rs.length c5s) st.ts st.rs st.ts st.rs _ omg.reads (rM.mono lB)).mono ?_;rw [show (decide (st.ts=st.ts) && decide (st.rs=st.rs))=true by simp];rintro e wr1 ⟨rfl,b⟩;replace kS:=kb0 b kS;replace kM:=kb0 b kM;replace rS:=rS.below (b.mono lB);replace rM:=rM.below (b.mono lB);replace ox:=za9 ox b;replace kG:=kb0 b kG;replace kH:=kb0 b kH;replace og:=og.below b;replace omg:=omg.below b;replace lB:=Nat.le_trans lB b.size;replace lG:=Nat.le_trans lG b.size;replace D:=za1 D b;clear b
  go_wp2_with fail
  refine (zed _ xs1 _ HLN.out ((ReadsR.below HR0.out D).mono D.size)).mono ?_;rintro e wt ⟨rfl,oy,b⟩;replace kS:=kb0 b kS;replace kM:=kb0 b kM;replace rS:=rS.below (b.mono lB);replace rM:=rM.below (b.mono lB);replace ox:=za9 ox b;replace kG:=kb0 b kG;replace kH:=kb0 b kH;replace og:=og.below b;replace omg:=omg.below b;replace lB:=Nat.le_trans lB b.size;replace lG:=Nat.le_trans lG b.size;replace D:=za1 D b;clear b
  go_wp2_with fail
  refine (zm9 _ _ xs1 _ (ReadsR.of_own zay ox) (ReadsR.of_own zay oy)).mono ?_;rintro e wu ⟨rfl,b⟩;clear oy;replace kS:=kb0 b kS;replace kM:=kb0 b kM;replace rS:=rS.below (b.mono lB);replace rM:=rM.below (b.mono lB);replace ox:=za9 ox b;replace kG:=kb0 b kG;replace kH:=kb0 b kH;replace og:=og.below b;replace omg:=omg.below b;replace lB:=Nat.le_trans lB b.size;replace lG:=Nat.le_trans lG b.size;replace D:=za1 D b;clear b
  go_wp2_with fail
  refine (zki _ W2.heap.size 1 xs1 _ (by omega) (by omega) HLN.out ox).mono ?_;rintro e wv ⟨rfl,on⟩
  have hsub : ∀ i,(Value.slice (some ⟨W2.heap.size,0,none⟩) xs1.length xs1.length).ownBlock=some i->W2.heap.size<=i/\i < w3.heap.size:=fun i h=>by
    have hi : W2.heap.size=i:=by simpa [Value.ownBlock] using h
    have:=HX.out
    omega
  have rg : Rng W2.heap.size w3.heap.size wu wv:=⟨on.os,on.tape,on.output,on.size,fun i hi hc=>on.block i hi (fun h=>by have:=hsub i h;omega)⟩
  have b : Below W2.heap.size wu wv:=on.toBelow lB (fun i h=>(hsub i h).1);replace og:=og.rng rg (Nat.le_refl _);replace omg:=omg.rng rg (Nat.le_refl _);replace kG:=(on.block _ (za2 kG) (fun h=>by have:=hsub _ h;have:=HKGg.out;omega)).trans kG;replace kH:=(on.block _ (za2 kH) (fun h=>by have:=hsub _ h;have:=HKGg.out;omega)).trans kH;replace kS:=(b.block _ HKS.out.1).trans kS;replace kM:=(b.block _ HKS.out.2).trans kM;replace rS:=rS.below b;replace rM:=rM.below b;replace lB:=Nat.le_trans lB on.size;replace lG:=Nat.le_trans lG on.size;replace D:=D.trans (b.mono HWB.out);clear on hsub rg b;clear ox;obtain ⟨p0,p1,p2⟩:=cq3 kG;obtain ⟨q0,q1,q2⟩:=cq3 kS
  go_wp2_with fail
  clear p0 p1 p2;clear q0 q1 q2;refine (zgb (.slice o1g st.s.cs.length c1g) (.slice o2g st.s.ps.length c2g) (.slice o3g mg.length c3g) (.slice o1s st.s.cs.length c1s) (.slice o2s st.s.ps.length c2s) (.slice o3s ms.length c3s) st.s.cs st.s.ps mg ms _ (zh2 (HBS.out.trans HBg.out.symm)) og.reads (rS.mono lB)).mono ?_;rintro e wq2 ⟨rfl,b⟩;replace kS:=kb0 b kS;replace kM:=kb0 b kM;replace rS:=rS.below (b.mono lB);replace rM:=rM.below (b.mono lB);replace kG:=kb0 b kG;replace kH:=kb0 b kH;replace og:=og.below b;replace omg:=omg.below b;replace lB:=Nat.le_trans lB b.size;replace lG:=Nat.le_trans lG b.size;replace D:=za1 D b;clear b;obtain ⟨p0,p1⟩:=cq2 kH;obtain ⟨q0,q1⟩:=cq2 kM
  go_wp2_with fail
  clear p0 p1;clear q0 q1;refine (zi1 (.slice o4g st.ts.length c4g) (.slice o5g st.rs.length c5g) (.slice o4s st.ts.length c4s) (.slice o5s st.rs.length c5s) st.ts st.rs st.ts st.rs _ omg.reads (rM.mono lB)).mono ?_;rw [show (decide (st.ts=st.ts) && decide (st.rs=st.rs))=true by simp];rintro e wr2 ⟨rfl,b⟩;replace kS:=kb0 b kS;replace kM:=kb0 b kM;replace rS:=rS.below (b.mono lB);replace rM:=rM.below (b.mono lB);replace kG:=kb0 b kG;replace kH:=kb0 b kH;replace og:=og.below b;replace omg:=omg.below b;replace lB:=Nat.le_trans lB b.size;replace lG:=Nat.le_trans lG b.size;replace D:=za1 D b;clear b;obtain ⟨sb1,sb2,sb3⟩:=zqo HBg.out HB.out.1 HB.out.2;have hE:=zuv 1 st.s.cs st.s.ps mg
  obtain ⟨kE,hkE⟩ : ∃ x,zfm 1 st.s.cs st.s.ps mg=x:=⟨_,rfl⟩
  have HKE : Hid (zfm 1 st.s.cs st.s.ps mg=kE):=hkE;have HMG : Hid (∀ b ∈ mg,b.rs.length<=1048576):=fun b hb=>Nat.le_trans (sb2 b hb) (by decide)
  have HK1 : Hid (0<=kE/\kE<=1048576):=by have:=HL.out;rw [hkE] at hE;rw [Hid];omega
  have hk0 : ¬ kE < 0:=by have:=HK1.out;omega
  obtain ⟨mk,hmk⟩ : ∃ mk : Int,kE+st.ts.length+2 * st.rs.length=mk:=⟨_,rfl⟩
  have HMK : Hid (kE+st.ts.length+2 * st.rs.length=mk):=hmk;have hm0 : ¬ mk < 0:=by have:=HK1.out;omega
  have hmm : (mk != mk)=false:=by simp
  clear sb1 sb2 sb3 hE hkE hmk;obtain ⟨p0,p1,p2⟩:=cq3 kG
  go_wp2_with fail
  clear p0 p1 p2;have hms:=zm8 (.slice o1g st.s.cs.length c1g) (.slice o2g st.s.ps.length c2g) (.slice o3g mg.length c3g) st.s.cs st.s.ps mg w3.heap.size 1 wr2 (by omega) (by have:=HL.out;omega) (by have:=HL.out;omega) (by rw [HKE.out];have:=HK1.out;omega) HMG.out og lG;rw [HKE.out] at hms;refine hms.mono ?_;clear hms;rintro e wx ⟨rfl,ogm,on⟩;replace kH:=(on.block _ (za2 kH) (og.notBox kH (by decide) (by decide) (by decide))).trans kH;replace kG:=(on.block _ (za2 kG) (og.notBox kG (by decide) (by decide) (by decide))).trans kG;have b : Below w3.heap.size wr2 wx:=on.toBelow lG (fun i h=>(OwnS.ins og i h).1)
  have hmt:=zbd omg.t on (fun g hg h=>by
    rcases h with h | h | h | ⟨y,hy,h⟩
    · exact HAPg.out g (.inl h) hg
    · exact HAPg.out g (.inr h) hg
    · exact zd5 og.b.row omg.t (by decide) g h hg
    · exact zd5 (og.b.maps y hy) omg.t (by decide) g h hg)
  have hmr:=zbd omg.r on (fun g hg h=>by
    rcases h with h | h | h | ⟨y,hy,h⟩
    · exact zd5 og.p.c omg.r (by decide) g h hg
    · exact zd5 og.p.p omg.r (by decide) g h hg
    · exact zd5 og.b.row omg.r (by decide) g h hg
    · exact zd5 (og.b.maps y hy) omg.r (by decide) g h hg)
  have HNM : Hid (∀ y ∈ mg,True):=fun _ _=>trivial
  have om2 : OwnM w3.heap.size wx (.slice o4g st.ts.length c4g) (.slice o5g st.rs.length c5g) st.ts st.rs:=⟨hmt,hmr⟩
  have bB : Below W2.heap.size wr2 wx:=b.mono (Nat.le_of_lt HX.out);replace kS:=(bB.block _ HKS.out.1).trans kS;replace kM:=(bB.block _ HKS.out.2).trans kM;replace rS:=rS.below bB;replace rM:=rM.below bB;replace lB:=Nat.le_trans lB on.size;replace lG:=Nat.le_trans lG on.size;replace D:=D.trans (bB.mono HWB.out);clear on b bB hmt hmr og omg HNM;obtain ⟨p0,p1⟩:=cq2 kH
  go_wp2_with fail
  clear p0 p1;have hmo:=zn2 (.slice o4g st.ts.length c4g) (.slice o5g st.rs.length c5g) st.ts st.rs w3.heap.size kE wx HK1.out.1 (by have:=HL.out;omega) (by have:=HL.out;omega) HK1.out.2 om2 lG;rw [HMK.out] at hmo;refine hmo.mono ?_;clear hmo;rintro e wy ⟨rfl,omm,on⟩;replace kH:=(on.block _ (za2 kH) (fun h=>h.elim (zaa om2.t kH (by decide)) (zaa om2.r kH (by decide)))).trans kH;replace kG:=(on.block _ (za2 kG) (fun h=>h.elim (zaa om2.t kG (by decide)) (zaa om2.r kG (by decide)))).trans kG;have b : Below w3.heap.size wx wy:=on.toBelow lG (fun i h=>(om2.span i h).1)
  have hav : ∀ g,((Value.slice o4g st.ts.length c4g).ownBlock=some g\/(Value.slice o5g st.rs.length c5g).ownBlock=some g)->∀ {e : TypeId} {s : Nat} {v : Value} {n : Nat} {xs : List Value} {bb : Nat},wx.ownsRow bb e s v n xs->e ≠ 2->e ≠ 43->v.ownBlock ≠ some g:=fun g h {e s v n xs bb} hr h1 h2=>by
    rcases h with h | h
    · exact zd5 om2.t hr (fun q=>h1 q.symm) g h
    · exact zd5 om2.r hr (fun q=>h2 q.symm) g h
  have og2 : OwnS w3.heap.size wy (.slice o1g st.s.cs.length c1g) (.slice o2g st.s.ps.length c2g) (.slice o3g mg.length c3g) (zb6 1 st.s.cs.length) (zb6 (1+st.s.cs.length) st.s.ps.length) (marksB (1+st.s.cs.length+st.s.ps.length) mg) :=
    ⟨⟨zbd ogm.p.c on (fun g hg h=>by
        rcases h with h | h
        · exact HAPg.out g (.inl hg) h
        · exact zd5 om2.r ogm.p.c (by decide) g h hg),zbd ogm.p.p on (fun g hg h=>by
        rcases h with h | h
        · exact HAPg.out g (.inr hg) h
        · exact zd5 om2.r ogm.p.p (by decide) g h hg),ogm.p.apart⟩,
      ⟨zbd ogm.b.row on (fun g hg h=>hav g h ogm.b.row (by decide) (by decide) hg),fun y hy=>zbd (ogm.b.maps y hy) on (fun g hg h=>hav g h (ogm.b.maps y hy) (by decide) (by decide) hg)⟩,ogm.a⟩
  have bB : Below W2.heap.size wx wy:=b.mono (Nat.le_of_lt HX.out);replace kS:=(bB.block _ HKS.out.1).trans kS;replace kM:=(bB.block _ HKS.out.2).trans kM;replace rS:=rS.below bB;replace rM:=rM.below bB;replace lB:=Nat.le_trans lB on.size;replace lG:=Nat.le_trans lG on.size;replace D:=D.trans (bB.mono HWB.out);clear on b bB hav om2 ogm;obtain ⟨p0,p1,p2⟩:=cq3 kG
  go_wp2_with fail
  clear p0 p1 p2;have hhs:=zhq (.slice o1g st.s.cs.length c1g) (.slice o2g st.s.ps.length c2g) (.slice o3g mg.length c3g) st.s.cs st.s.ps mg 1 wy (by omega) (by have:=HL.out;omega) (by have:=HL.out;omega) (by rw [HKE.out];have:=HK1.out;omega) HMG.out og2.reads;rw [HKE.out] at hhs;refine hhs.mono ?_;clear hhs;rintro e wz1 ⟨rfl,b⟩;replace kS:=kb0 b kS;replace kM:=kb0 b kM;replace rS:=rS.below (b.mono lB);replace rM:=rM.below (b.mono lB);replace kG:=kb0 b kG;replace kH:=kb0 b kH;replace og2:=og2.below b;replace omm:=omm.below b;replace lB:=Nat.le_trans lB b.size;replace lG:=Nat.le_trans lG b.size;replace D:=za1 D b;clear b;obtain ⟨p0,p1⟩:=cq2 kH
  go_wp2_with fail
  clear p0 p1;have hhm:=zil (.slice o4g st.ts.length c4g) (.slice o5g st.rs.length c5g) st.ts.length st.rs.length kE wz1 HK1.out.1 HK1.out.2 (by have:=HL.out;omega) (by have:=HL.out;omega) omm.reads;rw [HMK.out] at hhm;refine hhm.mono ?_;clear hhm;rintro e wZ1 ⟨rfl,b⟩;replace kS:=kb0 b kS;replace kM:=kb0 b kM;replace rS:=rS.below (b.mono lB);replace rM:=rM.below (b.mono lB);replace kG:=kb0 b kG;replace kH:=kb0 b kH;replace og2:=og2.below b;replace omm:=omm.below b;replace lB:=Nat.le_trans lB b.size;replace lG:=Nat.le_trans lG b.size;replace D:=za1 D b;clear b
  go_wp2_with fail
  refine (zed _ xs1 _ HLN.out ((ReadsR.below HR0.out D).mono D.size)).mono ?_;rintro e w6 ⟨rfl,oz,b⟩;replace kS:=kb0 b kS;replace kM:=kb0 b kM;replace rS:=rS.below (b.mono lB);replace rM:=rM.below (b.mono lB);replace kG:=kb0 b kG;replace kH:=kb0 b kH;replace og2:=og2.below b;replace omm:=omm.below b;replace lB:=Nat.le_trans lB b.size;replace lG:=Nat.le_trans lG b.size;replace D:=za1 D b;clear b
  go_wp2_with fail
  have him:=zfz a0 _ xs1 w6 ad _ (HVS.out.below D) (VarB.below HVB.out D) HZ.out (ReadsR.of_own zay oz);rw [HN.out] at him
  dsimp only at him
  refine him.mono ?_;clear him;rintro e w4h ⟨u1,u2,ub,t1,t2,mh,rfl,oh,hbs,omh,ap,b⟩;obtain ⟨o1h,c1h,o2h,c2h,o3h,c3h,rfl,rfl,rfl⟩:=oh.forms;obtain ⟨o4h,c4h,o5h,c5h,rfl,rfl⟩:=omh.forms;have HBh : Hid (mh.map Bk.pb=st.s.bs):=hbs;have HAPh : Hid _:=ap;have HKGh : Hid (w6.heap.size<=w4h.heap.size):=b.size;clear hbs ap;replace kS:=kb0 b kS;replace kM:=kb0 b kM;replace rS:=rS.below (b.mono lB);replace rM:=rM.below (b.mono lB);replace kG:=kb0 b kG;replace kH:=kb0 b kH;replace og2:=og2.below b;replace omm:=omm.below b;replace lB:=Nat.le_trans lB b.size;replace lG:=Nat.le_trans lG b.size;replace D:=za1 D b;clear b;obtain ⟨W7,hW,kP,kQ,b,z⟩:=zc7 w4h #[.slice o1h st.s.cs.length c1h,.slice o2h st.s.ps.length c2h,.slice o3h mh.length c3h] #[.slice o4h st.ts.length c4h,.slice o5h st.rs.length c5h] 30 33;have HW : Hid (W7 = _):=hW;have LGXh : w6.heap.size<=W7.heap.size:=Nat.le_trans HKGh.out b.size;replace oh:=oh.below b;replace omh:=omh.below b;clear hW z;replace kS:=kb0 b kS;replace kM:=kb0 b kM;replace rS:=rS.below (b.mono lB);replace rM:=rM.below (b.mono lB);replace kG:=kb0 b kG;replace kH:=kb0 b kH;replace og2:=og2.below b;replace omm:=omm.below b;replace lB:=Nat.le_trans lB b.size;replace lG:=Nat.le_trans lG b.size;replace D:=za1 D b;clear b;clear oz
  go_upto_region 29 with fail
  rw [<- HW.out];clear HW;obtain ⟨p0,p1,p2⟩:=cq3 kP;obtain ⟨q0,q1,q2⟩:=cq3 kS
  go_wp2_with fail
  clear p0 p1 p2;clear q0 q1 q2;refine (zgb (.slice o1h st.s.cs.length c1h) (.slice o2h st.s.ps.length c2h) (.slice o3h mh.length c3h) (.slice o1s st.s.cs.length c1s) (.slice o2s st.s.ps.length c2s) (.slice o3s ms.length c3s) st.s.cs st.s.ps mh ms _ (zh2 (HBS.out.trans HBh.out.symm)) oh.reads (rS.mono lB)).mono ?_;rintro e wq3 ⟨rfl,b⟩;replace kS:=kb0 b kS;replace kM:=kb0 b kM;replace rS:=rS.below (b.mono lB);replace rM:=rM.below (b.mono lB);replace kG:=kb0 b kG;replace kH:=kb0 b kH;replace og2:=og2.below b;replace omm:=omm.below b;replace kP:=kb0 b kP;replace kQ:=kb0 b kQ;replace oh:=oh.below b;replace omh:=omh.below b;replace lB:=Nat.le_trans lB b.size;replace lG:=Nat.le_trans lG b.size;replace D:=za1 D b;clear b;obtain ⟨p0,p1⟩:=cq2 kQ;obtain ⟨q0,q1⟩:=cq2 kM
  go_wp2_with fail
  clear p0 p1;clear q0 q1;refine (zi1 (.slice o4h st.ts.length c4h) (.slice o5h st.rs.length c5h) (.slice o4s st.ts.length c4s) (.slice o5s st.rs.length c5s) st.ts st.rs st.ts st.rs _ omh.reads (rM.mono lB)).mono ?_;rw [show (decide (st.ts=st.ts) && decide (st.rs=st.rs))=true by simp];rintro e wr3 ⟨rfl,b⟩;replace kS:=kb0 b kS;replace kM:=kb0 b kM;replace rS:=rS.below (b.mono lB);replace rM:=rM.below (b.mono lB);replace kG:=kb0 b kG;replace kH:=kb0 b kH;replace og2:=og2.below b;replace omm:=omm.below b;replace kP:=kb0 b kP;replace kQ:=kb0 b kQ;replace oh:=oh.below b;replace omh:=omh.below b;replace lB:=Nat.le_trans lB b.size;replace lG:=Nat.le_trans lG b.size;replace D:=za1 D b;clear b;clear kP kQ oh omh kS kM rS rM;obtain ⟨p0,p1,p2⟩:=cq3 kG
  go_wp2_with fail
  clear p0 p1 p2;have hhs:=zhq (.slice o1g st.s.cs.length c1g) (.slice o2g st.s.ps.length c2g) (.slice o3g mg.length c3g) st.s.cs st.s.ps mg 1 wr3 (by omega) (by have:=HL.out;omega) (by have:=HL.out;omega) (by rw [HKE.out];have:=HK1.out;omega) HMG.out og2.reads;rw [HKE.out] at hhs;refine hhs.mono ?_;clear hhs;rintro e wz2 ⟨rfl,b⟩;replace kG:=kb0 b kG;replace kH:=kb0 b kH;replace og2:=og2.below b;replace omm:=omm.below b;replace lB:=Nat.le_trans lB b.size;replace lG:=Nat.le_trans lG b.size;replace D:=za1 D b;clear b;obtain ⟨p0,p1⟩:=cq2 kH
  go_wp2_with fail
  clear p0 p1;have hhm:=zil (.slice o4g st.ts.length c4g) (.slice o5g st.rs.length c5g) st.ts.length st.rs.length kE wz2 HK1.out.1 HK1.out.2 (by have:=HL.out;omega) (by have:=HL.out;omega) omm.reads;rw [HMK.out] at hhm;refine hhm.mono ?_;clear hhm;rintro e wZ2 ⟨rfl,b⟩;replace kG:=kb0 b kG;replace kH:=kb0 b kH;replace og2:=og2.below b;replace omm:=omm.below b;replace lB:=Nat.le_trans lB b.size;replace lG:=Nat.le_trans lG b.size;replace D:=za1 D b;clear b
  go_wp2_with fail
  go_ret;exact ⟨rfl,D⟩
set_option maxRecDepth 100000 in
theorem lifted (os : Os) (started : os.Started) (H : Type) (enc : TypeId × Value->H) :
    ReturnsInHanded {} Tryz.checked os 5 .any (fun w args=>(Rows.fnExactReplayedSpec.pre enc Tryz.prog Tryz.f5 Rows.fnExactReplayedRow.domain false w args/\laidMetH Tryz.prog Rows.fnExactReplayedRow.laid w)/\sizedMet enc Tryz.prog Tryz.f5 (OpenSpec.ofChange Rows.fnExactReplayedSpec) false w args) (Rows.fnExactReplayedSpec.post enc Tryz.prog Tryz.f5 false true false false):=by
  refine returnsInHanded_of_change_and (C:=Tryz.checked) (X:=fun w _=>laidMetH Tryz.prog Rows.fnExactReplayedRow.laid w) (fun _ _ _ hh h=>h.of_heap hh) own started (by kernel_rfl) Tryz.func5
    (ChangeSpec.witness_at (enc:=enc) (C:=Tryz.checked) (os:=os) (X:=fun w _=>laidMetH Tryz.prog Rows.fnExactReplayedRow.laid w) false (zna os) #[.int .i64 0,.slice none 0 0] 8 rfl (by kernel_rfl) (by kernel_rfl) (by kernel_rfl) (by kernel_rfl) (by kernel_rfl) (show laidMetH Tryz.prog zhe _ from zvd os _)) ?_
  intro W base args ds gs before hval0 hW _ _ hL _;have hval : ∀ (j : Nat) t v,Tryz.f5.params[j]? = some t->args[j]? = some v->Value.okWide Tryz.prog W .any base t v:=hval0;have hW':=hW;obtain ⟨p,q,hA0,hV,rfl,hfz,hnd⟩:=hW;have hA : DataW.TrodAll enc Tryz.prog W 0 (fun _=>true) true Tryz.f5.params.toList args.toList ds p:=hA0;have hVN : DataW.TrodVars enc Tryz.prog W (fun _=>true) ["loop.example/g00372/impl.errCannotBe","loop.example/g00372/impl.errWrongShelf","loop.example/g00372/impl.errWrongOp","loop.example/g00372/impl.errNoBook","loop.example/g00372/impl.errBookThere","loop.example/g00372/impl.errFenced","loop.example/g00372/impl.errFixed","loop.example/g00372/impl.errRange","loop.example/g00372/impl.errManyBooks","loop.example/g00372/impl.errWorn","loop.example/g00372/impl.errNoPage"] gs q:=hV;have hvl:=vars_length hVN;rw [Tryz.params5] at hA hval;obtain ⟨v0,vs0,d0,ds0,p0,q0,hargs,rfl,rfl,h0,rr0⟩:=trodAll_cons hA;obtain ⟨v1,vs1,d1,ds1,p1,q1,rfl,rfl,rfl,h1,rr1⟩:=trodAll_cons rr0;obtain ⟨rfl,rfl,rfl⟩:=trodAll_nil rr1;obtain rfl : args = #[v0,v1]:=by cases args;simp_all
  have kk0:=h0;have lt0 : ∀ x ∈ p0,x.block < W.heap.size:=by obtain ⟨fuel,hfuel⟩:=kk0;exact DataW.trod_lt fuel _ _ _ hfuel
  obtain ⟨a0,rfl,w0⟩:=zve (hval 0 2 v0 rfl rfl) h0;have kk1:=h1;have lt1 : ∀ x ∈ p1,x.block < W.heap.size:=by obtain ⟨fuel,hfuel⟩:=kk1;exact DataW.trod_lt fuel _ _ _ hfuel
  obtain ⟨xs1,w1,z1⟩:=zom (hval 1 67 v1 rfl rfl) h1;clear hA0 hval0;refine (walk a0 v1 xs1 W w0 w1 z1 (zv9 W) (zva (show laidMetH Tryz.prog zhe W from hL)) (zvb (show laidMetH Tryz.prog zhe W from hL))).mono fun e W' ⟨he,bel⟩=>?_
  subst he
  match gs,hvl,hVN with
  | [g1,g2,g3,g4,g5,g6,g7,g8,g9,g10,g11],_,hVN =>
    exact ⟨_,rfl,_,_,_,[],_,q,hW',trodAll_mk1 (shut_bool Tryz.underlying4 _),(trodAll_cons_mk (Below.trod laidOut (by kernel_rfl) (of_decide_eq_true (by kernel_rfl)) kk0 bel lt0) (trodAll_cons_mk (Below.trod laidOut (by kernel_rfl) (of_decide_eq_true (by kernel_rfl)) kk1 bel lt1) trodAll_mk0)),Below.trodVars laidOut bel (by kernel_rfl) hVN,bel.frame _,fun h=>by cases h⟩
theorem over : Rows.fnExactReplayedRow.holds Tryz.pinned (OpenSpec.ofChange Rows.fnExactReplayedSpec) :=
  OpenClaim.holds_of_wide 5 Tryz.f5 rfl rfl rfl rfl rfl rfl rfl ⟨rfl,rfl,rfl,rfl,rfl⟩ rfl rfl rfl rfl rfl hfn Tryz.func5 zyn zyz zz0
    (fun os started H enc _=>lifted os started H enc)
theorem proved : Rows.FnExactReplayedCardSaid :=
  Claim7.holds_tied_plain_at .later [] [.handle,.sentinel,.sentinel,.sentinel,.sentinel,.sentinel,.sentinel,.sentinel,.sentinel,.sentinel,.sentinel,.sentinel] true (true,"2e225b0ab374328a243553b41226e329ef3e3b142b6c54e00fa2f42a0364bee5") true over (fun _ h=>by cases h) zyo (fun _ h=>by cases h) fnExactReplayed_row_tie rfl ⟨rfl,rfl⟩ mainIs rfl
    (fun f fn hf hfn'=>by
      obtain rfl : f=5:=(Option.some.inj (hfn.symm.trans hf)).symm;obtain rfl : fn=Tryz.f5:=(Option.some.inj (Tryz.func5.symm.trans hfn')).symm
      exact ⟨looks,fun j t ht=>by
        rw [Tryz.params5] at ht;have hm : t ∈ [2,67]:=by have h:=Array.mem_of_getElem? ht;simpa using h
        simp only [List.mem_cons,List.mem_nil_iff,or_false] at hm;rcases hm with rfl | rfl
        · exact zyp
        · exact zx5⟩)
    zz1
#print axioms proved
end Go.Proofs.YtfkkapdofjhgpaaGreatDoor.fnExactReplayed
