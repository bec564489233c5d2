/-
  The law FnShelf answers true at every input that the row speaks of, its arguments and the named variables read afterwards as before; the listed variables are tied to the program's text; the walk goes over the callees' contracts.
-/
import Derived.Test.YtaekdfknkgmfbaaGreatDoorRows
import Derived.Test.YtaekdfknkgmfbaaGreatDoorTie
import Derived.Test.YtaekdfknkgmfbaaGreatDoorCards
import Derived.WalkKit
import Derived.Below
import Derived.Laws.AppendOwn
import Derived.Deep.QuietTactic
import Derived.BigQuiet
import Derived.Test.YtaekdfknkgmfbaaGreatDoorChecked
import Derived.Laws.OwnMore
import Derived.OwnWalk
import Derived.LaidEql
import Derived.Stop.Asserts
import Derived.RowKitTokens
import Derived.RangeFuncBox
import Derived.Deep.WholeRow
import Derived.Laws.MakeOwn
import Derived.WalkSpells
import Derived.Laws.Bits128
import Derived.IntWalk
import Derived.Handy
import Derived.Laws.IdiomStrings
import Derived.Deep.RegionLaw
import Derived.Deep.RegionHeld3
import Derived.ChangeSame
import Derived.ChangeVars
import Derived.RowKit
import Derived.LaidLaws
import Derived.LaidHandle
import Derived.LaidSub
import Derived.Stop.LaidErr
import Derived.Stop.LaidTwo
import Derived.SevenTiedAt
import Derived.JoinedOf
import Derived.ProofKit
import Derived.OpenVars
import Derived.OpenShut
import Derived.ChangeOld
import Derived.Carry
import Derived.ShutString
import Derived.Lib.SmallJoins
import Derived.SliceStrings
import Derived.ChangeSlices
import Derived.Deep.DeepCutAuto
import Derived.Laws.Cover1
import Derived.Deep.CutBlock
import Derived.Laws.CopyOwn
import Derived.Lib.Strings
import Derived.Shelf.LaysM
import Derived.Shelf.Strconv.Clone
import Derived.Lib.LazyBuf
import Derived.Lib.Slices
import Derived.Lib.Walk
import Derived.Lib.Bytealg
import Derived.Lib.AppendZeros
import Derived.Deep.RegionWith
import Derived.Test.YtaekdfknkgmfbaaGreatDoorM01
import Derived.Test.YtaekdfknkgmfbaaGreatDoorM02
import Derived.Test.YtaekdfknkgmfbaaGreatDoorM03
import Derived.Test.YtaekdfknkgmfbaaGreatDoorM04
import Derived.Test.YtaekdfknkgmfbaaGreatDoorM05
import Derived.Test.YtaekdfknkgmfbaaGreatDoorM06
import Derived.Test.YtaekdfknkgmfbaaGreatDoorM07
import Derived.Test.YtaekdfknkgmfbaaGreatDoorM08
import Derived.Test.YtaekdfknkgmfbaaGreatDoorM09
import Derived.Test.YtaekdfknkgmfbaaGreatDoorM10
import Derived.Test.YtaekdfknkgmfbaaGreatDoorM11
import Derived.Test.YtaekdfknkgmfbaaGreatDoorM12
import Derived.Test.YtaekdfknkgmfbaaGreatDoorM13
import Derived.Test.YtaekdfknkgmfbaaGreatDoorM14
import Derived.Test.YtaekdfknkgmfbaaGreatDoorM15
import Derived.Test.YtaekdfknkgmfbaaGreatDoorM16
import Derived.Test.YtaekdfknkgmfbaaGreatDoorM17
import Derived.Test.YtaekdfknkgmfbaaGreatDoorM18
import Derived.Test.YtaekdfknkgmfbaaGreatDoorM19
import Derived.Test.YtaekdfknkgmfbaaGreatDoorM20
import Derived.Test.YtaekdfknkgmfbaaGreatDoorM21
import Derived.Test.YtaekdfknkgmfbaaGreatDoorM22
import Derived.Test.YtaekdfknkgmfbaaGreatDoorM23
import Derived.Test.YtaekdfknkgmfbaaGreatDoorM24
import Derived.Test.YtaekdfknkgmfbaaGreatDoorM25
import Derived.Test.YtaekdfknkgmfbaaGreatDoorM26
import Derived.Test.YtaekdfknkgmfbaaGreatDoorM27
import Derived.Test.YtaekdfknkgmfbaaGreatDoorM28
import Derived.Test.YtaekdfknkgmfbaaGreatDoorM29
import Derived.Test.YtaekdfknkgmfbaaGreatDoorM30
import Derived.Test.YtaekdfknkgmfbaaGreatDoorM31
import Derived.Test.YtaekdfknkgmfbaaGreatDoorM32
import Derived.Test.YtaekdfknkgmfbaaGreatDoorM33
import Derived.Test.YtaekdfknkgmfbaaGreatDoorM34
import Derived.Test.YtaekdfknkgmfbaaGreatDoorM35
import Derived.Test.YtaekdfknkgmfbaaGreatDoorM36
import Derived.Test.YtaekdfknkgmfbaaGreatDoorM37
import Derived.Test.YtaekdfknkgmfbaaGreatDoorM38
import Derived.Test.YtaekdfknkgmfbaaGreatDoorM39
import Derived.Test.YtaekdfknkgmfbaaGreatDoorM40
import Derived.Test.YtaekdfknkgmfbaaGreatDoorM41
import Derived.Test.YtaekdfknkgmfbaaGreatDoorM42
import Derived.Test.YtaekdfknkgmfbaaGreatDoorM43
import Derived.Test.YtaekdfknkgmfbaaGreatDoorM44
import Derived.Test.YtaekdfknkgmfbaaGreatDoorM45
import Derived.Test.YtaekdfknkgmfbaaGreatDoorM46
import Derived.Test.YtaekdfknkgmfbaaGreatDoorM47
import Derived.Test.YtaekdfknkgmfbaaGreatDoorM48
import Derived.Test.YtaekdfknkgmfbaaGreatDoorM49
import Derived.Test.YtaekdfknkgmfbaaGreatDoorM50
import Derived.Test.YtaekdfknkgmfbaaGreatDoorX01
namespace Go.Proofs.YtaekdfknkgmfbaaGreatDoor.fnShelf
open Go Go.ChangeShapes Go.WideShapes Go.ChangeAt Go.RowKit
set_option linter.unusedVariables false
theorem own : ownKnob Tryz.prog.godebug=none:=by kernel_rfl
theorem laidOut : laidOutB Tryz.prog=true:=by kernel_rfl
theorem vars_length {H : Type} {enc : TypeId × Value->H} {P : Program} {w : World} {sp : Nat->Bool} : ∀ {ns : List String} {gs : List (DataW H)} {ps : List MemPlace},DataW.TrodVars enc P w sp ns gs ps->gs.length=ns.length
  | [],[],_,_=>rfl
  | [],_ :: _,_,h=>h.elim
  | _ :: _,[],_,h=>h.elim
  | n :: ns,d :: ds,_,h=>by
    obtain ⟨_,_,_,_,_,_,_,_,_,_,h',_⟩:=h;simp [vars_length h']
set_option maxRecDepth 100000 in
set_option maxHeartbeats 8000000 in
theorem walk (a0 : Option Addr) (len0 cap0 : Nat) (w : World) (w0 : Src w w.heap.size a0 len0) (ad : Nat->Addr) (hvs : VarsS w ad) :
    Calls Tryz.prog 3 #[.slice a0 len0 cap0] w fun e w'=>e = .returned (.bool true)/\Below w.heap.size w w':=by
  have hs:=w0;have hm:=hs.1;by_cases hbig : (4096 : Int) < (len0 : Int)
  · have hd : decide ((4096 : Int) < (len0 : Int))=true:=by simpa using hbig
    go_enter Tryz.func3,Tryz.ntmps3
    go_wp2_with (go_at_call 12;refine (big_any _ _ _ _ hm).mono ?_;rintro e w' ⟨rfl,rfl⟩)
    go_ret;exact ⟨rfl,Below.refl _ _⟩
  have hd : decide ((4096 : Int) < (len0 : Int))=false:=by simpa using hbig
  clear w0
  go_enter Tryz.func3,Tryz.ntmps3
  go_wp2_with fail
  refine (big_any _ _ _ _ hm).mono ?_;rintro e w' ⟨rfl,rfl⟩
  go_wp2_with fail
  refine (drawDid_any _ _ _ _ hs).mono ?_;rintro e w1 ⟨v1,v2,vb,cs,ps,bks,oq,rfl,F,fit⟩;have d:=F.d;replace hs:=hs.below d;have y0:=d.size;obtain ⟨o1,c1,o2,c2,ob,kb,rfl,rfl,rfl⟩:=F.r.forms;have rS:=F.r;have yS : w1.heap.size<=w1.heap.size:=Nat.le_refl _;have HBF : Hid (∀ y ∈ bks,BkFit y):=F.bf;have HN : Hid (∀ b ∈ bks,b.nm.size<=maxLen):=fun b hb=>(F.bf b hb).nl
  have HF : Hid (∀ b ∈ bks,FitRuns b.rs):=fun b hb=>(F.bf b hb).fit
  have hfew:=F.few;clear F
  have HO : Hid ((oq.nm.size<=maxLen/\oq.ot.size<=maxLen)/\I64 oq.k/\I64 oq.at_/\I64 oq.va/\I64 oq.ep):=by
    have h1:=fit.k;have h2:=fit.at_;have h3:=fit.va;have h4:=fit.ep;have h5:=fit.nm;have h6:=fit.ot
    refine ⟨⟨?_,?_⟩,?_,?_,?_,?_⟩ <;> (first | (unfold I64;omega) | (unfold maxLen;omega))
  have HFT : Hid (OpFit oq):=fit;obtain ⟨k,nm,ot,at_,va,ep⟩:=oq;simp only at HO ⊢;clear fit
  obtain ⟨⟨D1,rc,rv⟩,hD⟩ : ∃ x,didOp ⟨cs,ps,bks.map Bk.pb⟩ ⟨k,nm,ot,at_,va,ep⟩=x:=⟨_,rfl⟩
  have HD : Hid (didOp ⟨cs,ps,bks.map Bk.pb⟩ ⟨k,nm,ot,at_,va,ep⟩=(D1,(rc,rv))):=hD;clear hD;obtain ⟨WA,hWA,kS,kO,b,zWA⟩:=box2 w1 #[.slice o1 cs.length c1,.slice o2 ps.length c2,.slice ob bks.length kb] #[.int .i64 k,.string nm,.string ot,.int .i64 at_,.int .i64 va,.int .i64 ep] 29 31;have sS : w1.heap.size < WA.heap.size:=by omega
  have sO : w1.heap.size+1 < WA.heap.size:=by omega
  have HWA : Hid (WA = _):=hWA;clear hWA zWA;replace d:=bw_call d b;replace hs:=hs.below (b.mono y0);replace y0:=Nat.le_trans y0 b.size;replace rS:=rS.below (b.mono yS);replace yS:=Nat.le_trans yS b.size;clear b
  go_wp2_with fail
  rw [<- HWA.out];clear HWA;generalize w1.heap.size=nS at *;refine (implDid_any _ _ _ cs ps bks k nm ot at_ va ep _ ad (hvs.below d) HN.out HF.out HO.out.1.1 HO.out.1.2 HO.out.2.1 HO.out.2.2.1 HO.out.2.2.2.1 HO.out.2.2.2.2 (rS.mono yS)).mono ?_;rw [HD.out];simp only;rintro e w2 ⟨u1,u2,ub,ms,rfl,oX,hmX,b⟩;replace d:=bw_call d b;replace hs:=hs.below (b.mono y0);replace y0:=Nat.le_trans y0 b.size;replace rS:=rS.below (b.mono yS);replace yS:=Nat.le_trans yS b.size;replace kS:=(b.block _ sS).trans kS;replace sS:=Nat.lt_of_lt_of_le sS b.size;replace kO:=(b.block _ sO).trans kO;replace sO:=Nat.lt_of_lt_of_le sO b.size;clear b;obtain ⟨x1,e1,x2,e2,xb,eb,rfl,rfl,rfl⟩:=oX.forms;have HMX : Hid (ms.map Bk.pb=D1.bs):=hmX;have HXF : Hid (∀ y ∈ ms,BkFit y):=did_fits (by rw [HD.out];exact hmX);have rX:=oX.reads;have yX : w2.heap.size<=w2.heap.size:=Nat.le_refl _;clear oX hmX;obtain ⟨WB,hWB,kX,kR,b,zWB⟩:=box2 w2 #[.slice x1 D1.cs.length e1,.slice x2 D1.ps.length e2,.slice xb ms.length eb] #[.int .i64 rc,.int .i64 rv] 29 35;have sX : w2.heap.size < WB.heap.size:=by omega
  have sR : w2.heap.size+1 < WB.heap.size:=by omega
  have HWB : Hid (WB = _):=hWB;clear hWB zWB;replace d:=bw_call d b;replace hs:=hs.below (b.mono y0);replace y0:=Nat.le_trans y0 b.size;replace rS:=rS.below (b.mono yS);replace yS:=Nat.le_trans yS b.size;replace kS:=(b.block _ sS).trans kS;replace sS:=Nat.lt_of_lt_of_le sS b.size;replace kO:=(b.block _ sO).trans kO;replace sO:=Nat.lt_of_lt_of_le sO b.size;replace rX:=rX.below (b.mono yX);replace yX:=Nat.le_trans yX b.size;clear b
  go_wp2_with fail
  rw [<- HWB.out];clear HWB;generalize w2.heap.size=nX at *;refine (drawNewShelf_any _ _ _ _ (hs.mono y0)).mono ?_;rintro e w3 ⟨n,rfl,hn,b⟩;replace d:=bw_call d b;replace hs:=hs.below (b.mono y0);replace y0:=Nat.le_trans y0 b.size;replace rS:=rS.below (b.mono yS);replace yS:=Nat.le_trans yS b.size;replace kS:=(b.block _ sS).trans kS;replace sS:=Nat.lt_of_lt_of_le sS b.size;replace kO:=(b.block _ sO).trans kO;replace sO:=Nat.lt_of_lt_of_le sO b.size;replace rX:=rX.below (b.mono yX);replace yX:=Nat.le_trans yX b.size;replace kX:=(b.block _ sX).trans kX;replace sX:=Nat.lt_of_lt_of_le sX b.size;replace kR:=(b.block _ sR).trans kR;replace sR:=Nat.lt_of_lt_of_le sR b.size;clear b;clear hs y0
  go_wp2_with fail
  have hni : (newPool n).2=true->ShInv ⟨(newPool n).1.1,(newPool n).1.2,[]⟩:=fun h=>by
    unfold newPool at h
    split at h
    · rename_i hq;exact new_inv n hq
    · cases h
  obtain ⟨⟨⟨zc,zp⟩,made⟩,hnp⟩ : ∃ q,newPool n=q:=⟨_,rfl⟩
  have HNP : Hid (newPool n=((zc,zp),made)):=hnp;rw [hnp] at hni;simp only at hni;have HNI : Hid (made=true->ShInv ⟨zc,zp,[]⟩):=hni;clear hnp hni;refine (implNewShelf_any n _).mono ?_;rw [HNP.out];simp only;rintro e w4 ⟨z1,z2,zb,rfl,oZ,oZb,b⟩;replace d:=bw_call d b;replace rS:=rS.below (b.mono yS);replace yS:=Nat.le_trans yS b.size;replace kS:=(b.block _ sS).trans kS;replace sS:=Nat.lt_of_lt_of_le sS b.size;replace kO:=(b.block _ sO).trans kO;replace sO:=Nat.lt_of_lt_of_le sO b.size;replace rX:=rX.below (b.mono yX);replace yX:=Nat.le_trans yX b.size;replace kX:=(b.block _ sX).trans kX;replace sX:=Nat.lt_of_lt_of_le sX b.size;replace kR:=(b.block _ sR).trans kR;replace sR:=Nat.lt_of_lt_of_le sR b.size;clear b;obtain ⟨zo1,zc1,zo2,zc2,rfl,rfl⟩:=oZ.forms;obtain ⟨zob,zcb,rfl⟩:=own_slice oZb.row
  have rZ : RS w4.heap.size w4 _ _ _ zc zp []:=⟨oZ.reads,oZb.reads⟩
  have yZ : w4.heap.size<=w4.heap.size:=Nat.le_refl _;clear oZ oZb;obtain ⟨WC,hWC,kZ,b,zWC⟩:=box1 w4 #[.slice zo1 zc.length zc1,.slice zo2 zp.length zc2,.slice zob 0 zcb] 29;have sZ : w4.heap.size < WC.heap.size:=by omega
  have HWC : Hid (WC = _):=hWC;clear hWC zWC;replace d:=bw_call d b;replace rS:=rS.below (b.mono yS);replace yS:=Nat.le_trans yS b.size;replace kS:=(b.block _ sS).trans kS;replace sS:=Nat.lt_of_lt_of_le sS b.size;replace kO:=(b.block _ sO).trans kO;replace sO:=Nat.lt_of_lt_of_le sO b.size;replace rX:=rX.below (b.mono yX);replace yX:=Nat.le_trans yX b.size;replace kX:=(b.block _ sX).trans kX;replace sX:=Nat.lt_of_lt_of_le sX b.size;replace kR:=(b.block _ sR).trans kR;replace sR:=Nat.lt_of_lt_of_le sR b.size;replace rZ:=rZ.below (b.mono yZ);replace yZ:=Nat.le_trans yZ b.size;clear b
  go_upto_region 7 with fail
  rw [<- HWC.out];clear HWC;generalize w4.heap.size=nZ at *;obtain ⟨pS0,pS1,pS2⟩:=c3 kS;obtain ⟨pO0,pO1,pO2,pO3,pO4,pO5⟩:=c6 kO
  go_wp2_with fail
  clear pS0 pS1 pS2 pO0 pO1 pO2 pO3 pO4 pO5;refine (specDidO_any _ _ _ cs ps bks k nm ot at_ va ep _ HN.out HO.out.1.1 HO.out.1.2 (rS.mono yS).p.c (rS.mono yS).p.p (rS.mono yS).b).mono ?_;rw [HD.out];simp only;rintro e w5 ⟨t1,t2,tb,rfl,oY,b⟩;replace d:=bw_call d b;replace rS:=rS.below (b.mono yS);replace yS:=Nat.le_trans yS b.size;replace kS:=(b.block _ sS).trans kS;replace sS:=Nat.lt_of_lt_of_le sS b.size;replace kO:=(b.block _ sO).trans kO;replace sO:=Nat.lt_of_lt_of_le sO b.size;replace rX:=rX.below (b.mono yX);replace yX:=Nat.le_trans yX b.size;replace kX:=(b.block _ sX).trans kX;replace sX:=Nat.lt_of_lt_of_le sX b.size;replace kR:=(b.block _ sR).trans kR;replace sR:=Nat.lt_of_lt_of_le sR b.size;replace rZ:=rZ.below (b.mono yZ);replace yZ:=Nat.le_trans yZ b.size;replace kZ:=(b.block _ sZ).trans kZ;replace sZ:=Nat.lt_of_lt_of_le sZ b.size;clear b;obtain ⟨ys,oYb,hmY⟩:=oY.b;obtain ⟨y1,g1,y2,g2,rfl,rfl⟩:=oY.p.forms;obtain ⟨yb,gb,rfl⟩:=own_slice oYb.row;have HYX : Hid (ys.map plainB=ms.map plainB):=plain_of_pb (hmY.trans HMX.out.symm)
  have rY : RS w5.heap.size w5 _ _ _ D1.cs D1.ps ys:=⟨oY.p.reads,oYb.reads⟩
  have yY : w5.heap.size<=w5.heap.size:=Nat.le_refl _;clear oY oYb hmY;obtain ⟨WD,hWD,kY,kT,b,zWD⟩:=box2 w5 #[.slice y1 D1.cs.length g1,.slice y2 D1.ps.length g2,.slice yb ys.length gb] #[.int .i64 rc,.int .i64 rv] 29 35;have sY : w5.heap.size < WD.heap.size:=by omega
  have sT : w5.heap.size+1 < WD.heap.size:=by omega
  have HWD : Hid (WD = _):=hWD;clear hWD zWD;replace d:=bw_call d b;replace rS:=rS.below (b.mono yS);replace yS:=Nat.le_trans yS b.size;replace kS:=(b.block _ sS).trans kS;replace sS:=Nat.lt_of_lt_of_le sS b.size;replace kO:=(b.block _ sO).trans kO;replace sO:=Nat.lt_of_lt_of_le sO b.size;replace rX:=rX.below (b.mono yX);replace yX:=Nat.le_trans yX b.size;replace kX:=(b.block _ sX).trans kX;replace sX:=Nat.lt_of_lt_of_le sX b.size;replace kR:=(b.block _ sR).trans kR;replace sR:=Nat.lt_of_lt_of_le sR b.size;replace rZ:=rZ.below (b.mono yZ);replace yZ:=Nat.le_trans yZ b.size;replace kZ:=(b.block _ sZ).trans kZ;replace sZ:=Nat.lt_of_lt_of_le sZ b.size;replace rY:=rY.below (b.mono yY);replace yY:=Nat.le_trans yY b.size;clear b
  go_upto_region 8 with fail
  rw [<- HWD.out];clear HWD;generalize w5.heap.size=nY at *
  obtain ⟨okv,hok⟩ : ∃ x,shelfOk ⟨cs,ps,bks.map Bk.pb⟩=x:=⟨_,rfl⟩
  have HOK : Hid (shelfOk ⟨cs,ps,bks.map Bk.pb⟩=okv):=hok
  obtain ⟨plv,hpl⟩ : ∃ x,placesOf ⟨cs,ps,bks.map Bk.pb⟩=x:=⟨_,rfl⟩
  have HPL : Hid (placesOf ⟨cs,ps,bks.map Bk.pb⟩=plv):=hpl;clear hok hpl;have hrc : (rc != rc)=false:=by simp
  have hrv : (rv != rv)=false:=by simp
  have hokk : (okv != okv)=false:=by cases okv <;> rfl
  have hplk : (plv != plv)=false:=by simp
  have H1 : ∀ q : BelowOf WD,Calls Tryz.prog 18 #[.agg #[.slice x1 D1.cs.length e1,.slice x2 D1.ps.length e2,.slice xb ms.length eb],.agg #[.slice y1 D1.cs.length g1,.slice y2 D1.ps.length g2,.slice yb ys.length gb]] q.w' fun e w'=>e = .returned (.bool true)/\Below q.w'.heap.size q.w' w':=fun q=>likeShelf_same _ _ _ _ _ _ D1.cs D1.ps ms ys q.w' HYX.out (rX.of yX q) (rY.of yY q)
  have H2 : ∀ q : BelowOf WD,Calls Tryz.prog 19 #[.agg #[.slice o1 cs.length c1,.slice o2 ps.length c2,.slice ob bks.length kb]] q.w' fun e w'=>e = .returned (.bool okv)/\Below q.w'.heap.size q.w' w':=fun q=>by have h:=implShelfOk_any _ _ _ cs ps bks q.w' HN.out HF.out (rS.of yS q).p.c (rS.of yS q).p.p (rS.of yS q).b;rwa [HOK.out] at h
  have H3 : ∀ q : BelowOf WD,Calls Tryz.prog 20 #[.agg #[.slice o1 cs.length c1,.slice o2 ps.length c2,.slice ob bks.length kb]] q.w' fun e w'=>e = .returned (.bool okv)/\Below q.w'.heap.size q.w' w':=fun q=>by have h:=specShelfOk_any _ _ _ cs ps bks q.w' HN.out (rS.of yS q).p.c (rS.of yS q).p.p (rS.of yS q).b;rwa [HOK.out] at h
  have H4 : ∀ q : BelowOf WD,Calls Tryz.prog 21 #[.agg #[.slice o1 cs.length c1,.slice o2 ps.length c2,.slice ob bks.length kb]] q.w' fun e w'=>e = .returned (.int .i64 plv)/\Below q.w'.heap.size q.w' w':=fun q=>by have h:=implPlaces_any _ _ _ cs ps bks q.w' HN.out HF.out (rS.of yS q).p.c (rS.of yS q).p.p (rS.of yS q).b;rwa [HPL.out] at h
  have H5 : ∀ q : BelowOf WD,Calls Tryz.prog 22 #[.agg #[.slice o1 cs.length c1,.slice o2 ps.length c2,.slice ob bks.length kb]] q.w' fun e w'=>e = .returned (.int .i64 plv)/\Below q.w'.heap.size q.w' w':=fun q=>by have h:=specPlaces_any _ _ _ cs ps bks q.w' HN.out (rS.of yS q).p.c (rS.of yS q).p.p (rS.of yS q).b;rwa [HPL.out] at h
  have cS0:=BelowOf.cell (v:=.slice o1 cs.length c1) (at_cell kS 0) sS;have cS1:=BelowOf.cell (v:=.slice o2 ps.length c2) (at_cell kS 1) sS;have cS2:=BelowOf.cell (v:=.slice ob bks.length kb) (at_cell kS 2) sS;have cX0:=BelowOf.cell (v:=.slice x1 D1.cs.length e1) (at_cell kX 0) sX;have cX1:=BelowOf.cell (v:=.slice x2 D1.ps.length e2) (at_cell kX 1) sX;have cX2:=BelowOf.cell (v:=.slice xb ms.length eb) (at_cell kX 2) sX;have cY0:=BelowOf.cell (v:=.slice y1 D1.cs.length g1) (at_cell kY 0) sY;have cY1:=BelowOf.cell (v:=.slice y2 D1.ps.length g2) (at_cell kY 1) sY;have cY2:=BelowOf.cell (v:=.slice yb ys.length gb) (at_cell kY 2) sY;have cR0:=BelowOf.cell (v:=.int .i64 rc) (at_cell kR 0) sR;have cR1:=BelowOf.cell (v:=.int .i64 rv) (at_cell kR 1) sR;have cT0:=BelowOf.cell (v:=.int .i64 rc) (at_cell kT 0) sT;have cT1:=BelowOf.cell (v:=.int .i64 rv) (at_cell kT 1) sT;have hne:=BelowOf.any WD;refine wp_region_of (by kernel_rfl) (by kernel_rfl) ?_
  repeat (go_big_quiet_step ((first | (go_at_call 18;with_reducible exact calls_of (H1 _)) | (go_at_call 19;with_reducible exact calls_of (H2 _)) | (go_at_call 20;with_reducible exact calls_of (H3 _)) | (go_at_call 21;with_reducible exact calls_of (H4 _)) | (go_at_call 22;with_reducible exact calls_of (H5 _)) | rfl)))
  refine wpQuiet_nil ?_;intro w6 hwq;obtain ⟨⟨wx,cx⟩,hwx⟩:=hwq;have b : Below WD.heap.size WD w6:=by rw [hwx];exact cx
  clear hwx cx wx hne cS0 cS1 cS2 cX0 cX1 cX2 cY0 cY1 cY2 cR0 cR1 cT0 cT1 H1 H2 H3 H4 H5;replace d:=bw_call d b;replace rS:=rS.below (b.mono yS);replace yS:=Nat.le_trans yS b.size;replace kS:=(b.block _ sS).trans kS;replace sS:=Nat.lt_of_lt_of_le sS b.size;replace kO:=(b.block _ sO).trans kO;replace sO:=Nat.lt_of_lt_of_le sO b.size;replace rX:=rX.below (b.mono yX);replace yX:=Nat.le_trans yX b.size;replace kX:=(b.block _ sX).trans kX;replace sX:=Nat.lt_of_lt_of_le sX b.size;replace kR:=(b.block _ sR).trans kR;replace sR:=Nat.lt_of_lt_of_le sR b.size;replace rZ:=rZ.below (b.mono yZ);replace yZ:=Nat.le_trans yZ b.size;replace kZ:=(b.block _ sZ).trans kZ;replace sZ:=Nat.lt_of_lt_of_le sZ b.size;replace rY:=rY.below (b.mono yY);replace yY:=Nat.le_trans yY b.size;replace kY:=(b.block _ sY).trans kY;replace sY:=Nat.lt_of_lt_of_le sY b.size;replace kT:=(b.block _ sT).trans kT;replace sT:=Nat.lt_of_lt_of_le sT b.size;clear b;clear kY sY kT sT rY yY;clear hrc hrv hokk hplk
  go_wp2_with fail
  refine (specNewShelf_any n _).mono ?_;rw [HNP.out];simp only;rintro e w7 ⟨q1,q2,rfl,oQ,b⟩;replace d:=bw_call d b;replace rS:=rS.below (b.mono yS);replace yS:=Nat.le_trans yS b.size;replace kS:=(b.block _ sS).trans kS;replace sS:=Nat.lt_of_lt_of_le sS b.size;replace kO:=(b.block _ sO).trans kO;replace sO:=Nat.lt_of_lt_of_le sO b.size;replace rX:=rX.below (b.mono yX);replace yX:=Nat.le_trans yX b.size;replace kX:=(b.block _ sX).trans kX;replace sX:=Nat.lt_of_lt_of_le sX b.size;replace kR:=(b.block _ sR).trans kR;replace sR:=Nat.lt_of_lt_of_le sR b.size;replace rZ:=rZ.below (b.mono yZ);replace yZ:=Nat.le_trans yZ b.size;replace kZ:=(b.block _ sZ).trans kZ;replace sZ:=Nat.lt_of_lt_of_le sZ b.size;clear b;obtain ⟨qo1,qc1,qo2,qc2,rfl,rfl⟩:=oQ.forms
  have rQ : RS w7.heap.size w7 _ _ (.slice none 0 0) zc zp []:=⟨oQ.reads,readsB_nil _ _⟩
  have yQ : w7.heap.size<=w7.heap.size:=Nat.le_refl _;clear oQ;obtain ⟨WE,hWE,kQ,b,zWE⟩:=box1 w7 #[.slice qo1 zc.length qc1,.slice qo2 zp.length qc2,.slice none 0 0] 29;have sQ : w7.heap.size < WE.heap.size:=by omega
  have HWE : Hid (WE = _):=hWE;clear hWE zWE;replace d:=bw_call d b;replace rS:=rS.below (b.mono yS);replace yS:=Nat.le_trans yS b.size;replace kS:=(b.block _ sS).trans kS;replace sS:=Nat.lt_of_lt_of_le sS b.size;replace kO:=(b.block _ sO).trans kO;replace sO:=Nat.lt_of_lt_of_le sO b.size;replace rX:=rX.below (b.mono yX);replace yX:=Nat.le_trans yX b.size;replace kX:=(b.block _ sX).trans kX;replace sX:=Nat.lt_of_lt_of_le sX b.size;replace kR:=(b.block _ sR).trans kR;replace sR:=Nat.lt_of_lt_of_le sR b.size;replace rZ:=rZ.below (b.mono yZ);replace yZ:=Nat.le_trans yZ b.size;replace kZ:=(b.block _ sZ).trans kZ;replace sZ:=Nat.lt_of_lt_of_le sZ b.size;replace rQ:=rQ.below (b.mono yQ);replace yQ:=Nat.le_trans yQ b.size;clear b
  go_upto_region 11 with fail
  rw [<- HWE.out];clear HWE;generalize w7.heap.size=nQ at *
  go_cut [86] (fun v wx=>v = .bool false/\Below WE.heap.size WE wx)
  case first =>
    have hmm : (made != made)=false:=by cases made <;> rfl
    obtain ⟨pZ0,pZ1,pZ2⟩:=c3 kZ;obtain ⟨pQ0,pQ1,pQ2⟩:=c3 kQ
    go_wp2_with fail
    refine (likeShelf_same _ _ _ _ _ _ zc zp [] [] _ rfl (rZ.mono yZ) (rQ.mono yQ)).mono ?_;rintro e w8 ⟨rfl,b8⟩;have kZ8:=(b8.block _ (heap_lt kZ)).trans kZ;have rZ8:=(rZ.mono yZ).below b8;have yZ8:=b8.size;clear pZ0 pZ1 pZ2 pQ0 pQ1 pQ2;obtain ⟨pZ0,pZ1,pZ2⟩:=c3 kZ8;cases made
    · go_wp2_with fail
      go_meet
      exact ⟨by first | rfl | trivial,b8⟩
    · have hokz : shelfOk ⟨zc,zp,([] : List Bk).map Bk.pb⟩=true:=(shelfOk_iff _).2 (HNI.out rfl)
      have HOZ : Hid _:=hokz;clear hokz
      go_wp2_with fail
      refine (implShelfOk_any _ _ _ zc zp [] _ (fun b hb=>by cases hb) (fun b hb=>by cases hb) (rZ8.mono yZ8).p.c (rZ8.mono yZ8).p.p (rZ8.mono yZ8).b).mono ?_;rw [HOZ.out];rintro e w9 ⟨rfl,b9⟩
      go_wp2_with fail
      go_meet
      exact ⟨by first | rfl | trivial,bw_call b8 b9⟩
  case rest =>
  obtain ⟨rfl,b⟩:=hcut;replace d:=bw_call d b;replace rS:=rS.below (b.mono yS);replace yS:=Nat.le_trans yS b.size;replace kS:=(b.block _ sS).trans kS;replace sS:=Nat.lt_of_lt_of_le sS b.size;replace kO:=(b.block _ sO).trans kO;replace sO:=Nat.lt_of_lt_of_le sO b.size;replace rX:=rX.below (b.mono yX);replace yX:=Nat.le_trans yX b.size;replace kX:=(b.block _ sX).trans kX;replace sX:=Nat.lt_of_lt_of_le sX b.size;replace kR:=(b.block _ sR).trans kR;replace sR:=Nat.lt_of_lt_of_le sR b.size;replace rZ:=rZ.below (b.mono yZ);replace yZ:=Nat.le_trans yZ b.size;replace kZ:=(b.block _ sZ).trans kZ;replace sZ:=Nat.lt_of_lt_of_le sZ b.size;replace rQ:=rQ.below (b.mono yQ);replace yQ:=Nat.le_trans yQ b.size;replace kQ:=(b.block _ sQ).trans kQ;replace sQ:=Nat.lt_of_lt_of_le sQ b.size;clear b;clear kQ sQ kZ sZ rZ yZ rQ yQ;clear HNI HNP;obtain ⟨pS0,pS1,pS2⟩:=c3 kS
  go_wp2_with fail
  clear pS0 pS1 pS2;refine (specShelfOk_any _ _ _ cs ps bks _ HN.out (rS.mono yS).p.c (rS.mono yS).p.p (rS.mono yS).b).mono ?_;rw [HOK.out];rintro e wf ⟨rfl,b⟩;replace d:=bw_call d b;replace rS:=rS.below (b.mono yS);replace yS:=Nat.le_trans yS b.size;replace kS:=(b.block _ sS).trans kS;replace sS:=Nat.lt_of_lt_of_le sS b.size;replace kO:=(b.block _ sO).trans kO;replace sO:=Nat.lt_of_lt_of_le sO b.size;replace rX:=rX.below (b.mono yX);replace yX:=Nat.le_trans yX b.size;replace kX:=(b.block _ sX).trans kX;replace sX:=Nat.lt_of_lt_of_le sX b.size;replace kR:=(b.block _ sR).trans kR;replace sR:=Nat.lt_of_lt_of_le sR b.size;clear b;clear HYX HBF HFT hfew hn;cases okv
  · -- a shelf that is wrong
    have hD0:=didOp_no (o:=⟨k,nm,ot,at_,va,ep⟩) HOK.out;rw [HD.out] at hD0;simp only [Prod.mk.injEq] at hD0;obtain ⟨rfl,rfl,rfl⟩:=hD0;have hms : ms = []:=List.map_eq_nil_iff.1 HMX.out;subst hms;have hpl1 : plv = -1:=by rw [<- HPL.out,placesOf_no HOK.out]
    subst hpl1;simp only [List.length_nil] at rX kX;clear HD HXF HMX;obtain ⟨pX0,pX1,pX2⟩:=c3 kX;have pR0:=at_cell kR 0;have pR1:=at_cell kR 1
    go_wp2_with fail
    refine (likeShelf_same _ _ _ _ _ _ [] [] [] [] _ rfl (rX.mono yX) (RS.nil _ _)).mono ?_;rintro e wg ⟨rfl,b⟩;clear pX0 pX1 pX2 pR0 pR1;replace d:=bw_call d b;replace rS:=rS.below (b.mono yS);replace yS:=Nat.le_trans yS b.size;replace kS:=(b.block _ sS).trans kS;replace sS:=Nat.lt_of_lt_of_le sS b.size;replace kO:=(b.block _ sO).trans kO;replace sO:=Nat.lt_of_lt_of_le sO b.size;replace rX:=rX.below (b.mono yX);replace yX:=Nat.le_trans yX b.size;replace kX:=(b.block _ sX).trans kX;replace sX:=Nat.lt_of_lt_of_le sX b.size;replace kR:=(b.block _ sR).trans kR;replace sR:=Nat.lt_of_lt_of_le sR b.size;clear b;obtain ⟨pS0,pS1,pS2⟩:=c3 kS
    go_wp2_with fail
    refine (implPlaces_any _ _ _ cs ps bks _ HN.out HF.out (rS.mono yS).p.c (rS.mono yS).p.p (rS.mono yS).b).mono ?_;rw [HPL.out];rintro e wh ⟨rfl,b⟩;replace d:=bw_call d b;replace rS:=rS.below (b.mono yS);replace yS:=Nat.le_trans yS b.size;replace kS:=(b.block _ sS).trans kS;replace sS:=Nat.lt_of_lt_of_le sS b.size;replace kO:=(b.block _ sO).trans kO;replace sO:=Nat.lt_of_lt_of_le sO b.size;replace rX:=rX.below (b.mono yX);replace yX:=Nat.le_trans yX b.size;replace kX:=(b.block _ sX).trans kX;replace sX:=Nat.lt_of_lt_of_le sX b.size;replace kR:=(b.block _ sR).trans kR;replace sR:=Nat.lt_of_lt_of_le sR b.size;clear b
    go_wp2_with fail
    go_ret;exact ⟨rfl,d⟩
  · have hinv:=did_ok (o:=⟨k,nm,ot,at_,va,ep⟩) HOK.out
    rw [HD.out] at hinv;have HDO : Hid (shelfOk D1=true):=hinv
    have HRF : Hid (rc ≠ 0->D1=⟨cs,ps,bks.map Bk.pb⟩/\rv=0):=fun h=>by
      have h2:=did_refused (o:=⟨k,nm,ot,at_,va,ep⟩) HOK.out (by rw [HD.out];exact h);rw [HD.out] at h2;exact h2
    have HBD : Hid (rc=1 ↔ opOk ⟨k,nm,ot,at_,va,ep⟩=false):=by
      have h2:=did_bad (o:=⟨k,nm,ot,at_,va,ep⟩) HOK.out;rw [HD.out] at h2;exact h2
    have HMD : Hid (D1=⟨D1.cs,D1.ps,ms.map Bk.pb⟩):=by rw [HMX.out];rfl
    clear hinv HD
    go_upto_region 15 with fail
    go_cut [121] (fun v wx=>v = .bool false/\Below wf.heap.size wf wx)
    case first =>
      obtain ⟨pS0,pS1,pS2⟩:=c3 kS;obtain ⟨pX0,pX1,pX2⟩:=c3 kX;have pR0:=at_cell kR 0;have pR1:=at_cell kR 1
      have HIM : ∀ W : World,RS W.heap.size W (.slice x1 D1.cs.length e1) (.slice x2 D1.ps.length e2) (.slice xb ms.length eb) D1.cs D1.ps ms->Calls Tryz.prog 19 #[.agg #[.slice x1 D1.cs.length e1,.slice x2 D1.ps.length e2,.slice xb ms.length eb]] W fun e w'=>e = .returned (.bool true)/\Below W.heap.size W w':=fun W r=>by
        have h:=implShelfOk_any _ _ _ D1.cs D1.ps ms W (fun b hb=>(HXF.out b hb).nl) (fun b hb=>(HXF.out b hb).fit) r.p.c r.p.p r.b;rw [<- HMD.out,HDO.out] at h;exact h
      by_cases hr0 : rc=0
      · have hr0b : (rc != 0)=false:=by rw [hr0];rfl
        clear hr0
        go_wp2_with fail
        refine (HIM _ (rX.mono yX)).mono ?_;rintro e w9 ⟨rfl,b9⟩
        go_wp2_with fail
        go_meet
        exact ⟨by first | rfl | trivial,b9⟩
      · have hr0b : (rc != 0)=true:=by rw [bne_iff_ne];exact hr0
        have hrf:=HRF.out hr0;have hrv0 : (rv != 0)=false:=by rw [hrf.2];rfl
        have HPS : Hid (bks.map plainB=ms.map plainB):=plain_of_pb (by rw [HMX.out,hrf.1]);have HCS : Hid (D1.cs=cs/\D1.ps=ps):=by rw [hrf.1];exact ⟨rfl,rfl⟩
        have rS' : RS nS wf (.slice o1 cs.length c1) (.slice o2 ps.length c2) (.slice ob bks.length kb) D1.cs D1.ps bks:=by rw [HCS.out.1,HCS.out.2];exact rS
        clear hr0 hrf
        go_wp2_with fail
        refine (likeShelf_same _ _ _ _ _ _ D1.cs D1.ps ms bks _ HPS.out (rX.mono yX) (rS'.mono yS)).mono ?_;rintro e w9 ⟨rfl,b9⟩;have kX9:=(b9.block _ (heap_lt kX)).trans kX;have kR9:=(b9.block _ (heap_lt kR)).trans kR;have rX9:=((rX.mono yX).below b9).mono b9.size;clear pS0 pS1 pS2 pX0 pX1 pX2 pR0 pR1;obtain ⟨pX0,pX1,pX2⟩:=c3 kX9;have pR0:=at_cell kR9 0;have pR1:=at_cell kR9 1
        go_wp2_with fail
        refine (HIM _ rX9).mono ?_;rintro e w10 ⟨rfl,b10⟩
        go_wp2_with fail
        go_meet
        exact ⟨by first | rfl | trivial,bw_call b9 b10⟩
    case rest =>
    obtain ⟨rfl,b⟩:=hcut;replace d:=bw_call d b;replace rS:=rS.below (b.mono yS);replace yS:=Nat.le_trans yS b.size;replace kS:=(b.block _ sS).trans kS;replace sS:=Nat.lt_of_lt_of_le sS b.size;replace kO:=(b.block _ sO).trans kO;replace sO:=Nat.lt_of_lt_of_le sO b.size;replace rX:=rX.below (b.mono yX);replace yX:=Nat.le_trans yX b.size;replace kX:=(b.block _ sX).trans kX;replace sX:=Nat.lt_of_lt_of_le sX b.size;replace kR:=(b.block _ sR).trans kR;replace sR:=Nat.lt_of_lt_of_le sR b.size;clear b;have HIV : Hid (ShInv D1):=(shelfOk_iff _).1 HDO.out;have HXL : Hid (D1.cs.length<=24):=HIV.out.n1.2
    go_wp2_with fail
    go_loopw [14,15] (fun sv iv wr=>∃ j : Nat,j<=D1.cs.length/\iv = .int .i64 j/\sv = .int .i64 (sumI64 (D1.cs.take j))/\wr=wc) (fun _ iv _=>D1.cs.length - (intOf iv).toNat)
    case atStart=>exact ⟨0,Nat.zero_le _,rfl,rfl,rfl⟩
    case round =>
      obtain ⟨j,hj,rfl,rfl,hwr⟩:=hrel;obtain rfl : wc=wr:=hwr.symm;have pX0:=at_cell kX 0;obtain ⟨xo,xc,hxv,-,hxc,-⟩:=(rX.mono yX).p.c;simp only [Value.slice.injEq,List.length_map,true_and] at hxv;obtain ⟨rfl,-⟩:=hxv;have hs0:=sum_part HIV.out j;by_cases hlt : j < D1.cs.length
      · have hji : (j : Int) < (D1.cs.length : Int):=by omega
        have hj0 : (0 : Int)<=(j : Int):=by omega
        have hj24 : (j : Int) < 24:=by have:=HXL.out;omega
        have HJL : Hid (j < D1.cs.length):=hlt;obtain ⟨g,off,rfl,-,hcj⟩:=hxc j (.int .i64 (D1.cs[j]'hlt)) (by rw [List.getElem?_map,List.getElem?_eq_getElem hlt];rfl);have hs1:=sum_part HIV.out (j+1);have hsum : sumI64 (D1.cs.take (j+1))=sumI64 (D1.cs.take j)+D1.cs[j]'hlt:=by rw [List.take_succ_eq_append_getElem hlt,sum_snoc]
        rw [hsum] at hs1;have HSM : Hid (sumI64 (D1.cs.take (j+1))=sumI64 (D1.cs.take j)+D1.cs[j]'hlt):=hsum;clear hsum hxc
        obtain ⟨A,hA⟩ : ∃ A,sumI64 (D1.cs.take j)=A:=⟨_,rfl⟩
        obtain ⟨x,hx⟩ : ∃ x,D1.cs[j]'hlt=x:=⟨_,rfl⟩
        rw [hA,hx] at HSM hs1;rw [hA] at hs0 ⊢;rw [hx] at hcj;clear hA hx;have hw : IntKind.i64.wrap (A+x)=A+x:=by rw [IntKind.wrap_i64];omega
        go_wp2_with fail
        go_roundw
        case rel =>
          have hl24:=HXL.out;exact ⟨j+1,by omega,by go_num,by rw [HSM.out],by first | rfl | trivial⟩
        case measure =>
          have hl24:=HXL.out;simp [intOf]
          omega
      · obtain rfl : j=D1.cs.length:=by omega
        have hnl : ¬ (D1.cs.length : Int) < (D1.cs.length : Int):=by omega
        have HSM : Hid (sumI64 (D1.cs.take D1.cs.length)=placesOf D1):=by
          rw [Hid,List.take_length,placesOf_yes HDO.out];exact (counts_few HIV.out).2.2
        have hpo : placesOf D1=placesOf ⟨D1.cs,D1.ps,ms.map Bk.pb⟩:=congrArg placesOf HMD.out;have HPX : Hid (placesOf ⟨D1.cs,D1.ps,ms.map Bk.pb⟩=sumI64 (D1.cs.take D1.cs.length)):=by rw [Hid,HSM.out];exact hpo.symm
        clear hpo hxc
        obtain ⟨A,hA⟩ : ∃ A,sumI64 (D1.cs.take D1.cs.length)=A:=⟨_,rfl⟩
        rw [hA] at HPX ⊢;clear hA HSM hs0
        go_upto_region 22 with fail
        obtain ⟨ook,hook⟩ : ∃ x,opOk ⟨k,nm,ot,at_,va,ep⟩=x:=⟨_,rfl⟩
        have HOO : Hid (opOk ⟨k,nm,ot,at_,va,ep⟩=ook):=hook;have HB2 : Hid (rc=1 ↔ ook=false):=by rw [Hid,<- hook];exact HBD.out
        clear hook;have H1 : ∀ q : BelowOf wc,Calls Tryz.prog 21 #[.agg #[.slice x1 D1.cs.length e1,.slice x2 D1.ps.length e2,.slice xb ms.length eb]] q.w' fun e w'=>e = .returned (.int .i64 A)/\Below q.w'.heap.size q.w' w':=fun q=>by have h:=implPlaces_any _ _ _ D1.cs D1.ps ms q.w' (fun b hb=>(HXF.out b hb).nl) (fun b hb=>(HXF.out b hb).fit) (rX.of yX q).p.c (rX.of yX q).p.p (rX.of yX q).b;rwa [HPX.out] at h
        have H2 : ∀ q : BelowOf wc,Calls Tryz.prog 24 #[.agg #[.int .i64 k,.string nm,.string ot,.int .i64 at_,.int .i64 va,.int .i64 ep]] q.w' fun e w'=>e = .returned (.bool ook)/\Below q.w'.heap.size q.w' w':=fun q=>by have h:=specOpOk_any k nm ot at_ va ep q.w' HO.out.1.1 HO.out.1.2;rwa [HOO.out] at h
        have hAA : (A == A)=true:=by simp
        have cX0:=BelowOf.cell (v:=.slice x1 D1.cs.length e1) (at_cell kX 0) sX;have cX1:=BelowOf.cell (v:=.slice x2 D1.ps.length e2) (at_cell kX 1) sX;have cX2:=BelowOf.cell (v:=.slice xb ms.length eb) (at_cell kX 2) sX;have cR0:=BelowOf.cell (v:=.int .i64 rc) (at_cell kR 0) sR;have cR1:=BelowOf.cell (v:=.int .i64 rv) (at_cell kR 1) sR;have cO0:=BelowOf.cell (v:=.int .i64 k) (at_cell kO 0) sO;have cO1:=BelowOf.cell (v:=.string nm) (at_cell kO 1) sO;have cO2:=BelowOf.cell (v:=.string ot) (at_cell kO 2) sO;have cO3:=BelowOf.cell (v:=.int .i64 at_) (at_cell kO 3) sO;have cO4:=BelowOf.cell (v:=.int .i64 va) (at_cell kO 4) sO;have cO5:=BelowOf.cell (v:=.int .i64 ep) (at_cell kO 5) sO;have hne:=BelowOf.any wc;have HDD : Hid _:=d;cases ook
        · obtain rfl : rc=1:=HB2.out.2 rfl
          refine wp_region_of (by kernel_rfl) (by kernel_rfl) ?_
          repeat (go_big_quiet_step ((first | (go_at_call 21;with_reducible exact calls_of (H1 _)) | (go_at_call 24;with_reducible exact calls_of (H2 _)) | rfl)))
          refine wpQuiet_nil ?_;intro wq hwq;obtain ⟨⟨wx,cx⟩,hwx⟩:=hwq;have b : Below wc.heap.size wc wq:=by rw [hwx];exact cx
          clear hwx cx wx hne
          go_wp2_with fail
          go_ret;exact ⟨rfl,bw_call HDD.out b⟩
        · have hr1 : ¬ rc=1:=fun h=>by cases HB2.out.1 h
          have hr1b : (rc == 1)=false:=by rw [beq_eq_false_iff_ne];exact hr1
          refine wp_region_of (by kernel_rfl) (by kernel_rfl) ?_
          repeat (go_big_quiet_step ((first | (go_at_call 21;with_reducible exact calls_of (H1 _)) | (go_at_call 24;with_reducible exact calls_of (H2 _)) | rfl)))
          refine wpQuiet_nil ?_;intro wq hwq;obtain ⟨⟨wx,cx⟩,hwx⟩:=hwq;have b : Below wc.heap.size wc wq:=by rw [hwx];exact cx
          clear hwx cx wx hne
          go_wp2_with fail
          go_ret;exact ⟨rfl,bw_call HDD.out b⟩
set_option maxRecDepth 100000 in
theorem lifted (os : Os) (started : os.Started) (H : Type) (enc : TypeId × Value->H) :
    ReturnsInHanded {} Tryz.checked os 3 .any (fun w args=>(Rows.fnShelfSpec.pre enc Tryz.prog Tryz.f3 Rows.fnShelfRow.domain false w args/\laidMetH Tryz.prog Rows.fnShelfRow.laid w)/\sizedMet enc Tryz.prog Tryz.f3 (OpenSpec.ofChange Rows.fnShelfSpec) false w args) (Rows.fnShelfSpec.post enc Tryz.prog Tryz.f3 false true false false):=by
  refine returnsInHanded_of_change_and (C:=Tryz.checked) (X:=fun w _=>laidMetH Tryz.prog Rows.fnShelfRow.laid w) (fun _ _ _ hh h=>h.of_heap hh) own started (by kernel_rfl) Tryz.func3
    (ChangeSpec.witness_at (enc:=enc) (C:=Tryz.checked) (os:=os) (X:=fun w _=>laidMetH Tryz.prog Rows.fnShelfRow.laid w) false (laidWorld os) #[.slice none 0 0] 8 rfl (by kernel_rfl) (by kernel_rfl) (by kernel_rfl) (by kernel_rfl) (by kernel_rfl) (show laidMetH Tryz.prog laidAll _ from laid_ten os _)) ?_
  intro W base args ds gs before hval0 hW _ _ hL _;have hval : ∀ (j : Nat) t v,Tryz.f3.params[j]? = some t->args[j]? = some v->Value.okWide Tryz.prog W .any base t v:=hval0;have hW':=hW;obtain ⟨p,q,hA0,hV,rfl,hfz,hnd⟩:=hW;have hA : DataW.TrodAll enc Tryz.prog W 0 (fun _=>true) true Tryz.f3.params.toList args.toList ds p:=hA0;have hVN : DataW.TrodVars enc Tryz.prog W (fun _=>true) ["loop.example/g00372/impl.errWrongShelf","loop.example/g00372/impl.errWrongOp","loop.example/g00372/impl.errNoBook","loop.example/g00372/impl.errBookThere","loop.example/g00372/impl.errFenced","loop.example/g00372/impl.errFixed","loop.example/g00372/impl.errRange","loop.example/g00372/impl.errManyBooks","loop.example/g00372/impl.errWorn","loop.example/g00372/impl.errNoPage"] gs q:=hV;have hvl:=vars_length hVN;rw [Tryz.params3] at hA hval;obtain ⟨v0,vs0,d0,ds0,p0,q0,hargs,rfl,rfl,h0,rr0⟩:=trodAll_cons hA;obtain ⟨rfl,rfl,rfl⟩:=trodAll_nil rr0;obtain rfl : args = #[v0]:=by cases args;simp_all
  have kk0:=h0;have lt0 : ∀ x ∈ p0,x.block < W.heap.size:=by obtain ⟨fuel,hfuel⟩:=kk0;exact DataW.trod_lt fuel _ _ _ hfuel
  obtain ⟨a0,len0,cap0,rfl,w0⟩:=open_bytes (hval 0 22 v0 rfl rfl) h0;clear hA0 hval0;refine (walk a0 len0 cap0 W w0 (adOf W) (vars_ten (show laidMetH Tryz.prog laidAll W from hL))).mono fun e W' ⟨he,bel⟩=>?_
  subst he
  match gs,hvl,hVN with
  | [g1,g2,g3,g4,g5,g6,g7,g8,g9,g10],_,hVN =>
    exact ⟨_,rfl,_,_,_,[],_,q,hW',trodAll_mk1 (shut_bool Tryz.underlying4 _),(trodAll_cons_mk (Below.trod laidOut (by kernel_rfl) (of_decide_eq_true (by kernel_rfl)) kk0 bel lt0) trodAll_mk0),Below.trodVars laidOut bel (by kernel_rfl) hVN,bel.frame _,fun h=>by cases h⟩
theorem over : Rows.fnShelfRow.holds Tryz.pinned (OpenSpec.ofChange Rows.fnShelfSpec) :=
  OpenClaim.holds_of_wide 3 Tryz.f3 rfl rfl rfl rfl rfl rfl rfl ⟨rfl,rfl,rfl,rfl,rfl⟩ rfl rfl rfl rfl rfl hfn Tryz.func3 closed hinst hwrap
    (fun os started H enc _=>lifted os started H enc)
theorem proved : Rows.FnShelfCardSaid :=
  Claim7.holds_tied_plain_at .later [] [.handle,.sentinel,.sentinel,.sentinel,.sentinel,.sentinel,.sentinel,.sentinel,.sentinel,.sentinel,.sentinel] true (true,"b2287236bee097b051ce9616ae8ae0340ef641078460b544a384993f62e4c8ab") true over (fun _ h=>by cases h) byText (fun _ h=>by cases h) fnShelf_row_tie rfl ⟨rfl,rfl⟩ mainIs rfl
    (fun f fn hf hfn'=>by
      obtain rfl : f=3:=(Option.some.inj (hfn.symm.trans hf)).symm;obtain rfl : fn=Tryz.f3:=(Option.some.inj (Tryz.func3.symm.trans hfn')).symm
      exact ⟨looks,fun j t ht=>by
        rw [Tryz.params3] at ht;have hm : t ∈ [22]:=by have h:=Array.mem_of_getElem? ht;simpa using h
        simp only [List.mem_cons,List.mem_nil_iff,or_false] at hm;rcases hm with rfl
        · exact stand22⟩)
    goes
#print axioms proved
end Go.Proofs.YtaekdfknkgmfbaaGreatDoor.fnShelf
