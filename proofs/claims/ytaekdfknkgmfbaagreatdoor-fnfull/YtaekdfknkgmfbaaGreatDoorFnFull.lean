/-
  The law FnFull answers true at every input that the row speaks of, its arguments and the named variables read afterwards as before; the listed variables are tied to the program's text; the walk goes over the callees' contracts.
-/
import Derived.Test.YtaekdfknkgmfbaaGreatDoorRows
import Derived.Test.YtaekdfknkgmfbaaGreatDoorTie
import Derived.Test.YtaekdfknkgmfbaaGreatDoorCards
import Derived.WalkKit
import Derived.Below
import Derived.Laws.AppendOwn
import Derived.Deep.QuietTactic
import Derived.BigQuiet
import Derived.Test.YtaekdfknkgmfbaaGreatDoorChecked
import Derived.Laws.OwnMore
import Derived.OwnWalk
import Derived.LaidEql
import Derived.Stop.Asserts
import Derived.RowKitTokens
import Derived.RangeFuncBox
import Derived.Deep.WholeRow
import Derived.Laws.MakeOwn
import Derived.WalkSpells
import Derived.Laws.Bits128
import Derived.IntWalk
import Derived.Handy
import Derived.Laws.IdiomStrings
import Derived.Deep.RegionLaw
import Derived.Deep.RegionHeld3
import Derived.ChangeSame
import Derived.ChangeVars
import Derived.RowKit
import Derived.LaidLaws
import Derived.LaidHandle
import Derived.LaidSub
import Derived.Stop.LaidErr
import Derived.Stop.LaidTwo
import Derived.SevenTiedAt
import Derived.JoinedOf
import Derived.ProofKit
import Derived.OpenVars
import Derived.OpenShut
import Derived.ChangeOld
import Derived.Carry
import Derived.ShutString
import Derived.Lib.SmallJoins
import Derived.SliceStrings
import Derived.ChangeSlices
import Derived.Deep.DeepCutAuto
import Derived.Laws.Cover1
import Derived.Deep.CutBlock
import Derived.Laws.CopyOwn
import Derived.Lib.Strings
import Derived.Shelf.LaysM
import Derived.Shelf.Strconv.Clone
import Derived.Lib.LazyBuf
import Derived.Lib.Slices
import Derived.Lib.Walk
import Derived.Lib.Bytealg
import Derived.Lib.AppendZeros
import Derived.Deep.RegionWith
import Derived.Test.YtaekdfknkgmfbaaGreatDoorM01
import Derived.Test.YtaekdfknkgmfbaaGreatDoorM02
import Derived.Test.YtaekdfknkgmfbaaGreatDoorM03
import Derived.Test.YtaekdfknkgmfbaaGreatDoorM04
import Derived.Test.YtaekdfknkgmfbaaGreatDoorM05
import Derived.Test.YtaekdfknkgmfbaaGreatDoorM06
import Derived.Test.YtaekdfknkgmfbaaGreatDoorM07
import Derived.Test.YtaekdfknkgmfbaaGreatDoorM08
import Derived.Test.YtaekdfknkgmfbaaGreatDoorM09
import Derived.Test.YtaekdfknkgmfbaaGreatDoorM10
import Derived.Test.YtaekdfknkgmfbaaGreatDoorM11
import Derived.Test.YtaekdfknkgmfbaaGreatDoorM12
import Derived.Test.YtaekdfknkgmfbaaGreatDoorM13
import Derived.Test.YtaekdfknkgmfbaaGreatDoorM14
import Derived.Test.YtaekdfknkgmfbaaGreatDoorM15
import Derived.Test.YtaekdfknkgmfbaaGreatDoorM16
import Derived.Test.YtaekdfknkgmfbaaGreatDoorM17
import Derived.Test.YtaekdfknkgmfbaaGreatDoorM18
import Derived.Test.YtaekdfknkgmfbaaGreatDoorM19
import Derived.Test.YtaekdfknkgmfbaaGreatDoorM20
import Derived.Test.YtaekdfknkgmfbaaGreatDoorM21
import Derived.Test.YtaekdfknkgmfbaaGreatDoorM22
import Derived.Test.YtaekdfknkgmfbaaGreatDoorM23
import Derived.Test.YtaekdfknkgmfbaaGreatDoorM24
import Derived.Test.YtaekdfknkgmfbaaGreatDoorM25
import Derived.Test.YtaekdfknkgmfbaaGreatDoorM26
import Derived.Test.YtaekdfknkgmfbaaGreatDoorM27
import Derived.Test.YtaekdfknkgmfbaaGreatDoorM28
import Derived.Test.YtaekdfknkgmfbaaGreatDoorM29
import Derived.Test.YtaekdfknkgmfbaaGreatDoorM30
import Derived.Test.YtaekdfknkgmfbaaGreatDoorM31
import Derived.Test.YtaekdfknkgmfbaaGreatDoorM32
import Derived.Test.YtaekdfknkgmfbaaGreatDoorM33
import Derived.Test.YtaekdfknkgmfbaaGreatDoorM34
import Derived.Test.YtaekdfknkgmfbaaGreatDoorM35
import Derived.Test.YtaekdfknkgmfbaaGreatDoorM36
import Derived.Test.YtaekdfknkgmfbaaGreatDoorM37
import Derived.Test.YtaekdfknkgmfbaaGreatDoorM38
import Derived.Test.YtaekdfknkgmfbaaGreatDoorM39
import Derived.Test.YtaekdfknkgmfbaaGreatDoorM40
import Derived.Test.YtaekdfknkgmfbaaGreatDoorM41
import Derived.Test.YtaekdfknkgmfbaaGreatDoorM42
import Derived.Test.YtaekdfknkgmfbaaGreatDoorM43
import Derived.Test.YtaekdfknkgmfbaaGreatDoorM44
import Derived.Test.YtaekdfknkgmfbaaGreatDoorM45
import Derived.Test.YtaekdfknkgmfbaaGreatDoorM46
import Derived.Test.YtaekdfknkgmfbaaGreatDoorM47
import Derived.Test.YtaekdfknkgmfbaaGreatDoorM48
import Derived.Test.YtaekdfknkgmfbaaGreatDoorM49
import Derived.Test.YtaekdfknkgmfbaaGreatDoorM50
import Derived.Test.YtaekdfknkgmfbaaGreatDoorY01
import Derived.Test.YtaekdfknkgmfbaaGreatDoorF01
namespace Go.Proofs.YtaekdfknkgmfbaaGreatDoor.fnFull
open Go Go.ChangeShapes Go.WideShapes Go.ChangeAt Go.RowKit
set_option linter.unusedVariables false
theorem own : ownKnob Tryz.prog.godebug=none:=by kernel_rfl
theorem laidOut : laidOutB Tryz.prog=true:=by kernel_rfl
theorem vars_length {H : Type} {enc : TypeId × Value->H} {P : Program} {w : World} {sp : Nat->Bool} : ∀ {ns : List String} {gs : List (DataW H)} {ps : List MemPlace},DataW.TrodVars enc P w sp ns gs ps->gs.length=ns.length
  | [],[],_,_=>rfl
  | [],_ :: _,_,h=>h.elim
  | _ :: _,[],_,h=>h.elim
  | n :: ns,d :: ds,_,h=>by
    obtain ⟨_,_,_,_,_,_,_,_,_,_,h',_⟩:=h;simp [vars_length h']
set_option maxRecDepth 100000 in
set_option maxHeartbeats 8000000 in
theorem walk (a0 : Option Addr) (len0 cap0 : Nat) (w : World) (w0 : Src w w.heap.size a0 len0) (ad : Nat->Addr) (hvs : VarsS w ad) :
    Calls Tryz.prog 5 #[.slice a0 len0 cap0] w fun e w'=>e = .returned (.bool true)/\Below w.heap.size w w':=by
  have hs:=w0;have hm:=hs.1;by_cases hbig : (4096 : Int) < (len0 : Int)
  · have hd : decide ((4096 : Int) < (len0 : Int))=true:=by simpa using hbig
    go_enter Tryz.func5,Tryz.ntmps5
    go_wp2_with (go_at_call 12;refine (big_any _ _ _ _ hm).mono ?_;rintro e w' ⟨rfl,rfl⟩)
    go_ret;exact ⟨rfl,Below.refl _ _⟩
  have hd : decide ((4096 : Int) < (len0 : Int))=false:=by simpa using hbig
  clear w0
  go_enter Tryz.func5,Tryz.ntmps5
  go_wp2_with fail
  refine (big_any _ _ _ _ hm).mono ?_;rintro e w' ⟨rfl,rfl⟩
  go_wp2_with fail
  refine (drawDid_any _ _ _ _ hs).mono ?_;rintro e w1 ⟨v1,v2,vb,cs,ps,bks,oq,rfl,F,fit⟩;have d:=F.d;replace hs:=hs.below d;have y0:=d.size;obtain ⟨o1,c1,o2,c2,ob,kb,rfl,rfl,rfl⟩:=F.r.forms;have rS:=F.r;have yS : w1.heap.size<=w1.heap.size:=Nat.le_refl _;have HBF : Hid (∀ y ∈ bks,BkFit y):=F.bf;have HN : Hid (∀ b ∈ bks,b.nm.size<=maxLen):=fun b hb=>(F.bf b hb).nl
  have HF : Hid (∀ b ∈ bks,FitRuns b.rs):=fun b hb=>(F.bf b hb).fit
  have hfew:=F.few;clear F
  have HO : Hid ((oq.nm.size<=maxLen/\oq.ot.size<=maxLen)/\I64 oq.k/\I64 oq.at_/\I64 oq.va/\I64 oq.ep):=by
    have h1:=fit.k;have h2:=fit.at_;have h3:=fit.va;have h4:=fit.ep;have h5:=fit.nm;have h6:=fit.ot
    refine ⟨⟨?_,?_⟩,?_,?_,?_,?_⟩ <;> (first | (unfold I64;omega) | (unfold maxLen;omega))
  have HFT : Hid (OpFit oq):=fit;obtain ⟨k,nm,ot,at_,va,ep⟩:=oq;simp only at HO ⊢;clear fit
  obtain ⟨⟨D1,rc,rv⟩,hD⟩ : ∃ x,didOp ⟨cs,ps,bks.map Bk.pb⟩ ⟨k,nm,ot,at_,va,ep⟩=x:=⟨_,rfl⟩
  have HD : Hid (didOp ⟨cs,ps,bks.map Bk.pb⟩ ⟨k,nm,ot,at_,va,ep⟩=(D1,(rc,rv))):=hD;clear hD;obtain ⟨WA,hWA,kS,kO,b,zWA⟩:=box2 w1 #[.slice o1 cs.length c1,.slice o2 ps.length c2,.slice ob bks.length kb] #[.int .i64 k,.string nm,.string ot,.int .i64 at_,.int .i64 va,.int .i64 ep] 29 31;have sS : w1.heap.size < WA.heap.size:=by omega
  have sO : w1.heap.size+1 < WA.heap.size:=by omega
  have HWA : Hid (WA = _):=hWA;clear hWA zWA;replace d:=bw_call d b;replace hs:=hs.below (b.mono y0);replace y0:=Nat.le_trans y0 b.size;replace rS:=rS.below (b.mono yS);replace yS:=Nat.le_trans yS b.size;clear b
  go_wp2_with fail
  rw [<- HWA.out];clear HWA;generalize w1.heap.size=nS at *;refine (implDid_any _ _ _ cs ps bks k nm ot at_ va ep _ ad (hvs.below d) HN.out HF.out HO.out.1.1 HO.out.1.2 HO.out.2.1 HO.out.2.2.1 HO.out.2.2.2.1 HO.out.2.2.2.2 (rS.mono yS)).mono ?_;rw [HD.out];simp only;rintro e w2 ⟨u1,u2,ub,ms,rfl,oX,hmX,b⟩;replace d:=bw_call d b;replace hs:=hs.below (b.mono y0);replace y0:=Nat.le_trans y0 b.size;replace rS:=rS.below (b.mono yS);replace yS:=Nat.le_trans yS b.size;replace kS:=(b.block _ sS).trans kS;replace sS:=Nat.lt_of_lt_of_le sS b.size;replace kO:=(b.block _ sO).trans kO;replace sO:=Nat.lt_of_lt_of_le sO b.size;clear b;obtain ⟨x1,e1,x2,e2,xb,eb,rfl,rfl,rfl⟩:=oX.forms;have HMX : Hid (ms.map Bk.pb=D1.bs):=hmX;have HXF : Hid (∀ y ∈ ms,BkFit y):=did_fits (by rw [HD.out];exact hmX);have rX:=oX.reads;have yX : w2.heap.size<=w2.heap.size:=Nat.le_refl _;clear oX hmX;obtain ⟨WB,hWB,kX,kR,b,zWB⟩:=box2 w2 #[.slice x1 D1.cs.length e1,.slice x2 D1.ps.length e2,.slice xb ms.length eb] #[.int .i64 rc,.int .i64 rv] 29 35;have sX : w2.heap.size < WB.heap.size:=by omega
  have sR : w2.heap.size+1 < WB.heap.size:=by omega
  have HWB : Hid (WB = _):=hWB;clear hWB zWB;replace d:=bw_call d b;replace hs:=hs.below (b.mono y0);replace y0:=Nat.le_trans y0 b.size;replace rS:=rS.below (b.mono yS);replace yS:=Nat.le_trans yS b.size;replace kS:=(b.block _ sS).trans kS;replace sS:=Nat.lt_of_lt_of_le sS b.size;replace kO:=(b.block _ sO).trans kO;replace sO:=Nat.lt_of_lt_of_le sO b.size;replace rX:=rX.below (b.mono yX);replace yX:=Nat.le_trans yX b.size;clear b
  go_upto_region 5 with fail
  rw [<- HWB.out];clear HWB;generalize w2.heap.size=nX at *;obtain ⟨pS0,pS1,pS2⟩:=c3 kS;obtain ⟨pO0,pO1,pO2,pO3,pO4,pO5⟩:=c6 kO
  go_wp2_with fail
  clear pS0 pS1 pS2 pO0 pO1 pO2 pO3 pO4 pO5;refine (specDidO_any _ _ _ cs ps bks k nm ot at_ va ep _ HN.out HO.out.1.1 HO.out.1.2 (rS.mono yS).p.c (rS.mono yS).p.p (rS.mono yS).b).mono ?_;rw [HD.out];simp only;rintro e w5 ⟨t1,t2,tb,rfl,oY,b⟩;replace d:=bw_call d b;replace hs:=hs.below (b.mono y0);replace y0:=Nat.le_trans y0 b.size;replace rS:=rS.below (b.mono yS);replace yS:=Nat.le_trans yS b.size;replace kS:=(b.block _ sS).trans kS;replace sS:=Nat.lt_of_lt_of_le sS b.size;replace kO:=(b.block _ sO).trans kO;replace sO:=Nat.lt_of_lt_of_le sO b.size;replace rX:=rX.below (b.mono yX);replace yX:=Nat.le_trans yX b.size;replace kX:=(b.block _ sX).trans kX;replace sX:=Nat.lt_of_lt_of_le sX b.size;replace kR:=(b.block _ sR).trans kR;replace sR:=Nat.lt_of_lt_of_le sR b.size;clear b;obtain ⟨ys,oYb,hmY⟩:=oY.b;obtain ⟨y1,g1,y2,g2,rfl,rfl⟩:=oY.p.forms;obtain ⟨yb,gb,rfl⟩:=own_slice oYb.row;have HYX : Hid (ys.map plainB=ms.map plainB):=plain_of_pb (hmY.trans HMX.out.symm)
  have rY : RS w5.heap.size w5 _ _ _ D1.cs D1.ps ys:=⟨oY.p.reads,oYb.reads⟩
  have yY : w5.heap.size<=w5.heap.size:=Nat.le_refl _;clear oY oYb hmY;obtain ⟨WD,hWD,kY,kT,b,zWD⟩:=box2 w5 #[.slice y1 D1.cs.length g1,.slice y2 D1.ps.length g2,.slice yb ys.length gb] #[.int .i64 rc,.int .i64 rv] 29 35;have sY : w5.heap.size < WD.heap.size:=by omega
  have sT : w5.heap.size+1 < WD.heap.size:=by omega
  have HWD : Hid (WD = _):=hWD;clear hWD zWD;replace d:=bw_call d b;replace hs:=hs.below (b.mono y0);replace y0:=Nat.le_trans y0 b.size;replace rS:=rS.below (b.mono yS);replace yS:=Nat.le_trans yS b.size;replace kS:=(b.block _ sS).trans kS;replace sS:=Nat.lt_of_lt_of_le sS b.size;replace kO:=(b.block _ sO).trans kO;replace sO:=Nat.lt_of_lt_of_le sO b.size;replace rX:=rX.below (b.mono yX);replace yX:=Nat.le_trans yX b.size;replace kX:=(b.block _ sX).trans kX;replace sX:=Nat.lt_of_lt_of_le sX b.size;replace kR:=(b.block _ sR).trans kR;replace sR:=Nat.lt_of_lt_of_le sR b.size;replace rY:=rY.below (b.mono yY);replace yY:=Nat.le_trans yY b.size;clear b
  go_upto_region 6 with fail
  rw [<- HWD.out];clear HWD;generalize w5.heap.size=nY at *;have hrc : (rc != rc)=false:=by simp
  have hrv : (rv != rv)=false:=by simp
  have pR0:=at_cell kR 0;have pR1:=at_cell kR 1;have pT0:=at_cell kT 0;have pT1:=at_cell kT 1
  go_wp2_with fail
  clear pR0 pR1 pT0 pT1;clear hrc hrv HYX;clear kY sY kT sT rY yY kX sX rX yX;clear HMX HXF;refine (drawReads_any _ _ _ _ (hs.mono y0)).mono ?_;rintro e w6 ⟨a1,a2,ab,cs2,ps2,bk2,n2,k2,rfl,F2,hn2,hk2⟩;have b:=F2.d;obtain ⟨q1,f1,q2,f2,qb,fb,rfl,rfl,rfl⟩:=F2.r.forms;have rZ:=F2.r;have HN2 : Hid (∀ b ∈ bk2,b.nm.size<=maxLen):=fun b hb=>(F2.bf b hb).nl
  have HF2 : Hid (∀ b ∈ bk2,FitRuns b.rs):=fun b hb=>(F2.bf b hb).fit
  have HK2 : Hid (n2.size<=maxLen/\I64 k2):=⟨by unfold maxLen;omega,by unfold I64;omega⟩
  clear F2 hn2 hk2;replace d:=bw_call d b;replace hs:=hs.below (b.mono y0);replace y0:=Nat.le_trans y0 b.size;replace rS:=rS.below (b.mono yS);replace yS:=Nat.le_trans yS b.size;replace kS:=(b.block _ sS).trans kS;replace sS:=Nat.lt_of_lt_of_le sS b.size;replace kO:=(b.block _ sO).trans kO;replace sO:=Nat.lt_of_lt_of_le sO b.size;replace kR:=(b.block _ sR).trans kR;replace sR:=Nat.lt_of_lt_of_le sR b.size;clear b;clear hs y0;have yZ : w6.heap.size<=w6.heap.size:=Nat.le_refl _;obtain ⟨WE,hWE,kZ,b,zWE⟩:=box1 w6 #[.slice q1 cs2.length f1,.slice q2 ps2.length f2,.slice qb bk2.length fb] 29;have sZ : w6.heap.size < WE.heap.size:=by omega
  have HWE : Hid (WE = _):=hWE;clear hWE zWE;replace d:=bw_call d b;replace rS:=rS.below (b.mono yS);replace yS:=Nat.le_trans yS b.size;replace kS:=(b.block _ sS).trans kS;replace sS:=Nat.lt_of_lt_of_le sS b.size;replace kO:=(b.block _ sO).trans kO;replace sO:=Nat.lt_of_lt_of_le sO b.size;replace kR:=(b.block _ sR).trans kR;replace sR:=Nat.lt_of_lt_of_le sR b.size;replace rZ:=rZ.below (b.mono yZ);replace yZ:=Nat.le_trans yZ b.size;clear b
  go_upto_region 10 with fail
  rw [<- HWE.out];clear HWE;generalize w6.heap.size=nZ at *
  obtain ⟨rdv,hrd⟩ : ∃ x,readsOf ⟨cs2,ps2,bk2.map Bk.pb⟩ n2 k2=x:=⟨_,rfl⟩
  have HRD : Hid (readsOf ⟨cs2,ps2,bk2.map Bk.pb⟩ n2 k2=rdv):=hrd;clear hrd;have hvs2 : VarsS WE ad:=hvs.below d;have HVE : Hid (VarsS WE ad):=hvs2;clear hvs2;have hrr : (rdv != rdv)=false:=by simp
  have H1 : ∀ q : BelowOf WE,Calls Tryz.prog 29 #[.agg #[.slice q1 cs2.length f1,.slice q2 ps2.length f2,.slice qb bk2.length fb],.string n2,.int .i64 k2] q.w' fun e w'=>e = .returned (.int .i64 rdv)/\Below q.w'.heap.size q.w' w':=fun q=>by have h:=implReads_any _ _ _ cs2 ps2 bk2 n2 k2 q.w' ad (HVE.out.below q.h) HN2.out HF2.out HK2.out.1 HK2.out.2 (rZ.of yZ q);rwa [HRD.out] at h
  have H2 : ∀ q : BelowOf WE,Calls Tryz.prog 30 #[.agg #[.slice q1 cs2.length f1,.slice q2 ps2.length f2,.slice qb bk2.length fb],.string n2,.int .i64 k2] q.w' fun e w'=>e = .returned (.int .i64 rdv)/\Below q.w'.heap.size q.w' w':=fun q=>by have h:=specReads_any _ _ _ cs2 ps2 bk2 n2 k2 q.w' HN2.out HK2.out.1 (rZ.of yZ q).p.c (rZ.of yZ q).p.p (rZ.of yZ q).b;rwa [HRD.out] at h
  have cZ0:=BelowOf.cell (v:=.slice q1 cs2.length f1) (at_cell kZ 0) sZ;have cZ1:=BelowOf.cell (v:=.slice q2 ps2.length f2) (at_cell kZ 1) sZ;have cZ2:=BelowOf.cell (v:=.slice qb bk2.length fb) (at_cell kZ 2) sZ;have hne:=BelowOf.any WE;refine wp_region_of (by kernel_rfl) (by kernel_rfl) ?_
  repeat (go_big_quiet_step ((first | (go_at_call 29;with_reducible exact calls_of (H1 _)) | (go_at_call 30;with_reducible exact calls_of (H2 _)) | rfl)))
  refine wpQuiet_nil ?_;intro w7 hwq;obtain ⟨⟨wx,cx⟩,hwx⟩:=hwq;have b : Below WE.heap.size WE w7:=by rw [hwx];exact cx
  clear hwx cx wx hne cZ0 cZ1 cZ2 H1 H2;replace d:=bw_call d b;replace rS:=rS.below (b.mono yS);replace yS:=Nat.le_trans yS b.size;replace kS:=(b.block _ sS).trans kS;replace sS:=Nat.lt_of_lt_of_le sS b.size;replace kO:=(b.block _ sO).trans kO;replace sO:=Nat.lt_of_lt_of_le sO b.size;replace kR:=(b.block _ sR).trans kR;replace sR:=Nat.lt_of_lt_of_le sR b.size;replace rZ:=rZ.below (b.mono yZ);replace yZ:=Nat.le_trans yZ b.size;replace kZ:=(b.block _ sZ).trans kZ;replace sZ:=Nat.lt_of_lt_of_le sZ b.size;clear b;clear kZ sZ rZ yZ;clear hrr HRD HVE HN2 HF2 HK2 HBF HFT hfew
  obtain ⟨okv,hok⟩ : ∃ x,shelfOk ⟨cs,ps,bks.map Bk.pb⟩=x:=⟨_,rfl⟩
  have HOK : Hid (shelfOk ⟨cs,ps,bks.map Bk.pb⟩=okv):=hok
  obtain ⟨ook,hook⟩ : ∃ x,opOk ⟨k,nm,ot,at_,va,ep⟩=x:=⟨_,rfl⟩
  have HOO : Hid (opOk ⟨k,nm,ot,at_,va,ep⟩=ook):=hook
  have HNF : Hid (¬ (okv=true/\ook=true/\k=2)->rc ≠ 9):=fun h=>by
    have h2:=not_full (s:=⟨cs,ps,bks.map Bk.pb⟩) (o:=⟨k,nm,ot,at_,va,ep⟩) (by rw [hok,hook];exact h);rw [HD.out] at h2;exact h2
  clear hok hook;obtain ⟨pS0,pS1,pS2⟩:=c3 kS
  go_wp2_with fail
  clear pS0 pS1 pS2;refine (specShelfOk_any _ _ _ cs ps bks _ HN.out (rS.mono yS).p.c (rS.mono yS).p.p (rS.mono yS).b).mono ?_;rw [HOK.out];rintro e wf ⟨rfl,b⟩;replace d:=bw_call d b;replace rS:=rS.below (b.mono yS);replace yS:=Nat.le_trans yS b.size;replace kS:=(b.block _ sS).trans kS;replace sS:=Nat.lt_of_lt_of_le sS b.size;replace kO:=(b.block _ sO).trans kO;replace sO:=Nat.lt_of_lt_of_le sO b.size;replace kR:=(b.block _ sR).trans kR;replace sR:=Nat.lt_of_lt_of_le sR b.size;clear b;cases okv
  · have hr9 : (rc != 9)=true:=by rw [bne_iff_ne];exact HNF.out (fun h=>by cases h.1)
    clear HD;have pR0:=at_cell kR 0;have pR1:=at_cell kR 1
    go_wp2_with fail
    go_ret;exact ⟨rfl,d⟩
  obtain ⟨pO0,pO1,pO2,pO3,pO4,pO5⟩:=c6 kO
  go_wp2_with fail
  clear pO0 pO1 pO2 pO3 pO4 pO5;refine (specOpOk_any k nm ot at_ va ep _ HO.out.1.1 HO.out.1.2).mono ?_;rw [HOO.out];rintro e wg ⟨rfl,b⟩;replace d:=bw_call d b;replace rS:=rS.below (b.mono yS);replace yS:=Nat.le_trans yS b.size;replace kS:=(b.block _ sS).trans kS;replace sS:=Nat.lt_of_lt_of_le sS b.size;replace kO:=(b.block _ sO).trans kO;replace sO:=Nat.lt_of_lt_of_le sO b.size;replace kR:=(b.block _ sR).trans kR;replace sR:=Nat.lt_of_lt_of_le sR b.size;clear b;cases ook
  · have hr9 : (rc != 9)=true:=by rw [bne_iff_ne];exact HNF.out (fun h=>by cases h.2.1)
    clear HD;have pR0:=at_cell kR 0;have pR1:=at_cell kR 1;obtain ⟨pO0,pO1,pO2,pO3,pO4,pO5⟩:=c6 kO
    go_wp2_with fail
    go_ret;exact ⟨rfl,d⟩
  by_cases hk : ¬ k=2
  · have hr9 : (rc != 9)=true:=by rw [bne_iff_ne];exact HNF.out (fun h=>hk h.2.2)
    have hkb : (k != 2)=true:=by rw [bne_iff_ne];exact hk
    clear HD hk;have pR0:=at_cell kR 0;have pR1:=at_cell kR 1;obtain ⟨pO0,pO1,pO2,pO3,pO4,pO5⟩:=c6 kO
    go_wp2_with fail
    go_ret;exact ⟨rfl,d⟩
  obtain rfl : k=2:=by omega
  clear hk HNF;obtain ⟨pS0,pS1,pS2⟩:=c3 kS;obtain ⟨pO0,pO1,pO2,pO3,pO4,pO5⟩:=c6 kO
  go_wp2_with fail
  clear pS0 pS1 pS2 pO0 pO1 pO2 pO3 pO4 pO5;refine (specFindBook_any _ bks nm _ (rS.mono yS).b.row).mono ?_;rintro e wh ⟨rfl,rfl⟩;have HFB : Hid (findB bks nm=findP (bks.map Bk.pb) nm):=findB_P bks nm;by_cases hF : findB bks nm < 0
  · have hr2 : rc=2:=by
      have h2:=write_none (s:=⟨cs,ps,bks.map Bk.pb⟩) (o:=⟨2,nm,ot,at_,va,ep⟩) HOK.out HOO.out rfl (by show findP (bks.map Bk.pb) nm < 0;rw [<- HFB.out];exact hF);rw [HD.out] at h2;exact h2
    subst hr2;clear HD HFB
    obtain ⟨F,hFe⟩ : ∃ F,findB bks nm=F:=⟨_,rfl⟩
    rw [hFe] at hF ⊢;clear hFe;have pR0:=at_cell kR 0;have pR1:=at_cell kR 1
    go_wp2_with fail
    go_ret;exact ⟨rfl,d⟩
  obtain ⟨i,hie⟩:=Int.eq_ofNat_of_zero_le (show 0<=findB bks nm by omega);have hil : i < bks.length:=by have:=findB_lt bks nm;omega
  have HFL : Hid _:=full_law (s:=⟨cs,ps,bks.map Bk.pb⟩) (o:=⟨2,nm,ot,at_,va,ep⟩) HOK.out HOO.out rfl (by show 0<=findP (bks.map Bk.pb) nm;rw [<- HFB.out,hie];omega) (bks[i]'hil).pb (by show bookAt (bks.map Bk.pb) (findP (bks.map Bk.pb) nm) = _;rw [<- HFB.out,hie,bkAt_pb _ _ (by omega),bkAt_yes hil]) ((((shelfOk_iff _).1 HOK.out)).oks _ (List.mem_map_of_mem (List.getElem_mem hil)))
  have HPG : Hid (pageOf (bks[i]'hil).rs at_ < cs.length):=by
    have hinv:=(shelfOk_iff _).1 HOK.out;have ha:=(opOk_bd _ HOO.out).2.2.2.1.1;simp only at ha;exact page_below hinv i hil at_ ha
  have HSP : Hid (spare cs ps=(zeros cs : Int)):=by
    have hinv:=HOK.out;unfold shelfOk at hinv;simp only [Bool.and_eq_true] at hinv;rw [Hid,spare,if_pos hinv.1.1.1.1]
  rw [hie];rw [HD.out] at HFL;obtain ⟨bo,bcp,hbv,-,hbc,-⟩:=(rS.mono yS).b.row;simp only [Value.slice.injEq,true_and] at hbv;obtain ⟨rfl,-⟩:=hbv;obtain ⟨g,off,rfl,-,hx⟩:=hbc i (bks[i]'hil) (List.getElem?_eq_getElem hil);have HMP : Hid (ReadsR 3 runC nS wh (bks[i]'hil).m (bks[i]'hil).rs):=rS.b.maps _ (List.getElem_mem hil)
  obtain ⟨xb,hxe⟩ : ∃ xb,bks[i]'hil=xb:=⟨_,rfl⟩
  rw [hxe] at hx HMP HFL HPG;clear hxe hbc hie HD HFB hF;obtain ⟨bn,bz,bm,br,bx,be⟩:=xb;simp only at HMP HPG;simp only [Bk.pb] at HFL;obtain ⟨mo,mc,hmf⟩:=HMP.out.form;subst hmf;have a0:=hx 0 _ rfl;have a1:=hx 1 _ rfl;have a2:=hx 2 _ rfl;have a3:=hx 3 _ rfl;have a4:=hx 4 _ rfl;have HR3 : Hid _:=HMP.out;have rM:=HMP.out;have yM:=yS;clear hx HMP;have i0 : (0 : Int)<=(i : Int):=by omega
  have i1 : (i : Int) < (bks.length : Int):=by omega
  have s2:=at_cell kS 2;simp only [Nat.add_zero] at a0;simp only at a0 a1 a2 a3 a4;clear HR3;obtain ⟨WG,hWG,kB,b,zG⟩:=box1 wh #[.string bn,.int .i64 bz,.slice mo br.length mc,.bool bx,.int .i64 be] 48;have sB : wh.heap.size < WG.heap.size:=by omega
  have HWG : Hid (WG = _):=hWG;clear hWG zG
  go_upto_region 18 with fail
  rw [<- HWG.out];clear HWG a0 a1 a2 a3 a4 s2;replace d:=bw_call d b;replace rS:=rS.below (b.mono yS);replace yS:=Nat.le_trans yS b.size;replace kS:=(b.block _ sS).trans kS;replace sS:=Nat.lt_of_lt_of_le sS b.size;replace kO:=(b.block _ sO).trans kO;replace sO:=Nat.lt_of_lt_of_le sO b.size;replace kR:=(b.block _ sR).trans kR;replace sR:=Nat.lt_of_lt_of_le sR b.size;replace rM:=rM.below (b.mono yM);replace yM:=Nat.le_trans yM b.size;clear b;generalize wh.heap.size=nB at *;obtain ⟨pO0,pO1,pO2,pO3,pO4,pO5⟩:=c6 kO;have pB2:=at_cell kB 2
  go_wp2_with fail
  clear pO0 pO1 pO2 pO3 pO4 pO5;clear pB2;refine (specPageOf_any _ br at_ _ (rM.mono yM)).mono ?_;rintro e wi ⟨rfl,b⟩;replace d:=bw_call d b;replace rS:=rS.below (b.mono yS);replace yS:=Nat.le_trans yS b.size;replace kS:=(b.block _ sS).trans kS;replace sS:=Nat.lt_of_lt_of_le sS b.size;replace kO:=(b.block _ sO).trans kO;replace sO:=Nat.lt_of_lt_of_le sO b.size;replace kR:=(b.block _ sR).trans kR;replace sR:=Nat.lt_of_lt_of_le sR b.size;replace rM:=rM.below (b.mono yM);replace yM:=Nat.le_trans yM b.size;replace kB:=(b.block _ sB).trans kB;replace sB:=Nat.lt_of_lt_of_le sB b.size;clear b;clear rM yM
  obtain ⟨P,hP⟩ : ∃ P,pageOf br at_=P:=⟨_,rfl⟩
  rw [hP] at HFL HPG ⊢;clear hP
  obtain ⟨ownv,how⟩ : ∃ x,decide (0<=P/\cs.getD P.toNat 0=1)=x:=⟨_,rfl⟩
  have HOW : Hid (decide (0<=P/\cs.getD P.toNat 0=1)=ownv):=how;clear how
  go_upto_region 19 with fail
  go_cut [16] (fun v wx=>v = .bool ownv/\wx=wi)
  case first =>
    have pS0:=at_cell kS 0;by_cases hP0 : 0<=P
    · obtain ⟨j,rfl⟩:=Int.eq_ofNat_of_zero_le hP0
      have hjl : j < cs.length:=by have:=HPG.out;omega
      have hji : (j : Int) < (cs.length : Int):=by omega
      obtain ⟨xo,xc,hxv,-,hxc,-⟩:=(rS.mono yS).p.c;simp only [Value.slice.injEq,List.length_map,true_and] at hxv;obtain ⟨rfl,-⟩:=hxv;obtain ⟨g1,off1,rfl,-,hcj⟩:=hxc j (.int .i64 (cs[j]'hjl)) (by rw [List.getElem?_map,List.getElem?_eq_getElem hjl];rfl)
      have hov : ownv=decide ((cs[j]'hjl)=1):=by
        rw [<- HOW.out,decide_eq_decide,Int.toNat_natCast,List.getD_eq_getElem?_getD,List.getElem?_eq_getElem hjl];exact ⟨fun h=>h.2,fun h=>⟨by omega,h⟩⟩
      have HOV : Hid (ownv=decide ((cs[j]'hjl)=1)):=hov
      obtain ⟨cj,hce⟩ : ∃ x,cs[j]'hjl=x:=⟨_,rfl⟩
      rw [hce] at HOV hcj;clear hov hce hxc HOW HFL HPG
      go_wp2_with fail
      go_meet
      exact ⟨by rw [HOV.out];first | rfl | (congr 1),rfl⟩
    · have hov : ownv=false:=by rw [<- HOW.out];exact decide_eq_false (fun h=>hP0 h.1)
      subst hov;have hP1 : ¬ (0 : Int)<=P:=hP0;clear HOW HFL HPG
      go_wp2_with fail
      go_meet
      exact ⟨rfl,rfl⟩
  case rest =>
  obtain ⟨rfl,hwi⟩:=hcut;obtain rfl : wi=wc:=hwi.symm
  have HFL2 : Hid ((ep < be\/bx=true\/bz<=at_->rc ≠ 9/\rc ≠ 0)/\(¬ (ep < be\/bx=true\/bz<=at_)->(rc=9 ↔ (zeros cs=0/\ownv=false))/\(rc=9\/rc=0))):=by
    refine ⟨HFL.out.1,fun h=>?_⟩;have h2:=HFL.out.2 h;refine ⟨h2.1.trans ⟨fun q=>⟨q.1,by rw [<- HOW.out];exact decide_eq_false q.2⟩,fun q=>⟨q.1,fun z=>?_⟩⟩,h2.2⟩;have:=HOW.out;rw [decide_eq_true z,q.2] at this;cases this
  clear HFL HOW HPG;have pS0:=at_cell kS 0;have pS1:=at_cell kS 1
  go_wp2_with fail
  clear pS0 pS1;refine (specSpare_any _ _ cs ps _ (rS.mono yS).p.c (rS.mono yS).p.p).mono ?_;rw [HSP.out];rintro e wj ⟨rfl,b⟩;replace d:=bw_call d b;replace rS:=rS.below (b.mono yS);replace yS:=Nat.le_trans yS b.size;replace kS:=(b.block _ sS).trans kS;replace sS:=Nat.lt_of_lt_of_le sS b.size;replace kO:=(b.block _ sO).trans kO;replace sO:=Nat.lt_of_lt_of_le sO b.size;replace kR:=(b.block _ sR).trans kR;replace sR:=Nat.lt_of_lt_of_le sR b.size;replace kB:=(b.block _ sB).trans kB;replace sB:=Nat.lt_of_lt_of_le sB b.size;clear b;have HZZ : Hid (0<=(zeros cs : Int)):=by rw [Hid];omega
  obtain ⟨nz,hnz⟩ : ∃ n : Nat,zeros cs=n:=⟨_,rfl⟩
  rw [hnz] at HFL2 ⊢;clear hnz HSP HZZ;have pB1:=at_cell kB 1;have pB3:=at_cell kB 3;have pB4:=at_cell kB 4;have pR0:=at_cell kR 0;have pR1:=at_cell kR 1;obtain ⟨pO0,pO1,pO2,pO3,pO4,pO5⟩:=c6 kO;by_cases hc : ep < be\/bx=true\/bz<=at_
  · have hn:=HFL2.out.1 hc
    have h9 : (rc != 9)=true:=by rw [bne_iff_ne];exact hn.1
    have h0 : (rc != 0)=true:=by rw [bne_iff_ne];exact hn.2
    clear HFL2 hn;by_cases h1 : ep < be
    · clear hc
      go_wp2_with fail
      go_ret;exact ⟨rfl,d⟩
    · cases bx
      · have h2 : bz<=at_:=by rcases hc with q | q | q;exact absurd q h1;cases q;exact q
        clear hc
        go_wp2_with fail
        go_ret;exact ⟨rfl,d⟩
      · clear hc
        go_wp2_with fail
        go_ret;exact ⟨rfl,d⟩
  · have hn:=HFL2.out.2 hc
    have h1 : ¬ ep < be:=fun q=>hc (.inl q)
    have h2 : bx=false:=by cases bx;rfl;exact absurd (Or.inr (Or.inl rfl)) hc
    have h3 : ¬ bz<=at_:=fun q=>hc (.inr (.inr q))
    subst h2;clear HFL2 hc
    rcases hn with ⟨hiff,rfl | rfl⟩
    · have hz:=hiff.1 rfl
      obtain ⟨rfl,rfl⟩:=hz;clear hiff
      go_wp2_with fail
      go_ret;exact ⟨rfl,d⟩
    · by_cases hz : nz=0
      · subst hz
        have ho : ownv=true:=by
          cases ownv
          · have:=hiff.2 ⟨rfl,rfl⟩
            cases this
          · rfl
        subst ho;clear hiff
        go_wp2_with fail
        go_ret;exact ⟨rfl,d⟩
      · have hzi : ¬ (nz : Int)=0:=by omega
        have hzb : ((nz : Int) == 0)=false:=by rw [beq_eq_false_iff_ne];exact hzi
        clear hiff hz
        go_wp2_with fail
        go_ret;exact ⟨rfl,d⟩
set_option maxRecDepth 100000 in
theorem lifted (os : Os) (started : os.Started) (H : Type) (enc : TypeId × Value->H) :
    ReturnsInHanded {} Tryz.checked os 5 .any (fun w args=>(Rows.fnFullSpec.pre enc Tryz.prog Tryz.f5 Rows.fnFullRow.domain false w args/\laidMetH Tryz.prog Rows.fnFullRow.laid w)/\sizedMet enc Tryz.prog Tryz.f5 (OpenSpec.ofChange Rows.fnFullSpec) false w args) (Rows.fnFullSpec.post enc Tryz.prog Tryz.f5 false true false false):=by
  refine returnsInHanded_of_change_and (C:=Tryz.checked) (X:=fun w _=>laidMetH Tryz.prog Rows.fnFullRow.laid w) (fun _ _ _ hh h=>h.of_heap hh) own started (by kernel_rfl) Tryz.func5
    (ChangeSpec.witness_at (enc:=enc) (C:=Tryz.checked) (os:=os) (X:=fun w _=>laidMetH Tryz.prog Rows.fnFullRow.laid w) false (laidWorld os) #[.slice none 0 0] 8 rfl (by kernel_rfl) (by kernel_rfl) (by kernel_rfl) (by kernel_rfl) (by kernel_rfl) (show laidMetH Tryz.prog laidAll _ from laid_ten os _)) ?_
  intro W base args ds gs before hval0 hW _ _ hL _;have hval : ∀ (j : Nat) t v,Tryz.f5.params[j]? = some t->args[j]? = some v->Value.okWide Tryz.prog W .any base t v:=hval0;have hW':=hW;obtain ⟨p,q,hA0,hV,rfl,hfz,hnd⟩:=hW;have hA : DataW.TrodAll enc Tryz.prog W 0 (fun _=>true) true Tryz.f5.params.toList args.toList ds p:=hA0;have hVN : DataW.TrodVars enc Tryz.prog W (fun _=>true) ["loop.example/g00372/impl.errWrongShelf","loop.example/g00372/impl.errWrongOp","loop.example/g00372/impl.errNoBook","loop.example/g00372/impl.errBookThere","loop.example/g00372/impl.errFenced","loop.example/g00372/impl.errFixed","loop.example/g00372/impl.errRange","loop.example/g00372/impl.errManyBooks","loop.example/g00372/impl.errWorn","loop.example/g00372/impl.errNoPage"] gs q:=hV;have hvl:=vars_length hVN;rw [Tryz.params5] at hA hval;obtain ⟨v0,vs0,d0,ds0,p0,q0,hargs,rfl,rfl,h0,rr0⟩:=trodAll_cons hA;obtain ⟨rfl,rfl,rfl⟩:=trodAll_nil rr0;obtain rfl : args = #[v0]:=by cases args;simp_all
  have kk0:=h0;have lt0 : ∀ x ∈ p0,x.block < W.heap.size:=by obtain ⟨fuel,hfuel⟩:=kk0;exact DataW.trod_lt fuel _ _ _ hfuel
  obtain ⟨a0,len0,cap0,rfl,w0⟩:=open_bytes (hval 0 22 v0 rfl rfl) h0;clear hA0 hval0;refine (walk a0 len0 cap0 W w0 (adOf W) (vars_ten (show laidMetH Tryz.prog laidAll W from hL))).mono fun e W' ⟨he,bel⟩=>?_
  subst he
  match gs,hvl,hVN with
  | [g1,g2,g3,g4,g5,g6,g7,g8,g9,g10],_,hVN =>
    exact ⟨_,rfl,_,_,_,[],_,q,hW',trodAll_mk1 (shut_bool Tryz.underlying4 _),(trodAll_cons_mk (Below.trod laidOut (by kernel_rfl) (of_decide_eq_true (by kernel_rfl)) kk0 bel lt0) trodAll_mk0),Below.trodVars laidOut bel (by kernel_rfl) hVN,bel.frame _,fun h=>by cases h⟩
theorem over : Rows.fnFullRow.holds Tryz.pinned (OpenSpec.ofChange Rows.fnFullSpec) :=
  OpenClaim.holds_of_wide 5 Tryz.f5 rfl rfl rfl rfl rfl rfl rfl ⟨rfl,rfl,rfl,rfl,rfl⟩ rfl rfl rfl rfl rfl hfn Tryz.func5 closed hinst hwrap
    (fun os started H enc _=>lifted os started H enc)
theorem proved : Rows.FnFullCardSaid :=
  Claim7.holds_tied_plain_at .later [] [.handle,.sentinel,.sentinel,.sentinel,.sentinel,.sentinel,.sentinel,.sentinel,.sentinel,.sentinel,.sentinel] true (true,"b2287236bee097b051ce9616ae8ae0340ef641078460b544a384993f62e4c8ab") true over (fun _ h=>by cases h) byText (fun _ h=>by cases h) fnFull_row_tie rfl ⟨rfl,rfl⟩ mainIs rfl
    (fun f fn hf hfn'=>by
      obtain rfl : f=5:=(Option.some.inj (hfn.symm.trans hf)).symm;obtain rfl : fn=Tryz.f5:=(Option.some.inj (Tryz.func5.symm.trans hfn')).symm
      exact ⟨looks,fun j t ht=>by
        rw [Tryz.params5] at ht;have hm : t ∈ [22]:=by have h:=Array.mem_of_getElem? ht;simpa using h
        simp only [List.mem_cons,List.mem_nil_iff,or_false] at hm;rcases hm with rfl
        · exact stand22⟩)
    goes
#print axioms proved
end Go.Proofs.YtaekdfknkgmfbaaGreatDoor.fnFull
