/-
  The law FnPagesShared answers true at every input that the row speaks of, its arguments and the named variables read afterwards as before; the listed variables are tied to the program's text; the walk goes over the callees' contracts.
-/
import Derived.Test.YtaekdfknkgmfbaaGreatDoorRows
import Derived.Test.YtaekdfknkgmfbaaGreatDoorTie
import Derived.Test.YtaekdfknkgmfbaaGreatDoorCards
import Derived.WalkKit
import Derived.Below
import Derived.Laws.AppendOwn
import Derived.Deep.QuietTactic
import Derived.BigQuiet
import Derived.Test.YtaekdfknkgmfbaaGreatDoorChecked
import Derived.Laws.OwnMore
import Derived.OwnWalk
import Derived.LaidEql
import Derived.Stop.Asserts
import Derived.RowKitTokens
import Derived.RangeFuncBox
import Derived.Deep.WholeRow
import Derived.Laws.MakeOwn
import Derived.WalkSpells
import Derived.Laws.Bits128
import Derived.IntWalk
import Derived.Handy
import Derived.Laws.IdiomStrings
import Derived.Deep.RegionLaw
import Derived.Deep.RegionHeld3
import Derived.ChangeSame
import Derived.ChangeVars
import Derived.RowKit
import Derived.LaidLaws
import Derived.LaidHandle
import Derived.LaidSub
import Derived.Stop.LaidErr
import Derived.Stop.LaidTwo
import Derived.SevenTiedAt
import Derived.JoinedOf
import Derived.ProofKit
import Derived.OpenVars
import Derived.OpenShut
import Derived.ChangeOld
import Derived.Carry
import Derived.ShutString
import Derived.Lib.SmallJoins
import Derived.SliceStrings
import Derived.ChangeSlices
import Derived.Deep.DeepCutAuto
import Derived.Laws.Cover1
import Derived.Deep.CutBlock
import Derived.Laws.CopyOwn
import Derived.Lib.Strings
import Derived.Shelf.LaysM
import Derived.Shelf.Strconv.Clone
import Derived.Lib.LazyBuf
import Derived.Lib.Slices
import Derived.Lib.Walk
import Derived.Lib.Bytealg
import Derived.Lib.AppendZeros
import Derived.Deep.RegionWith
import Derived.Test.YtaekdfknkgmfbaaGreatDoorM01
import Derived.Test.YtaekdfknkgmfbaaGreatDoorM02
import Derived.Test.YtaekdfknkgmfbaaGreatDoorM03
import Derived.Test.YtaekdfknkgmfbaaGreatDoorM04
import Derived.Test.YtaekdfknkgmfbaaGreatDoorM05
import Derived.Test.YtaekdfknkgmfbaaGreatDoorM06
import Derived.Test.YtaekdfknkgmfbaaGreatDoorM07
import Derived.Test.YtaekdfknkgmfbaaGreatDoorM08
import Derived.Test.YtaekdfknkgmfbaaGreatDoorM09
import Derived.Test.YtaekdfknkgmfbaaGreatDoorM10
import Derived.Test.YtaekdfknkgmfbaaGreatDoorM11
import Derived.Test.YtaekdfknkgmfbaaGreatDoorM12
import Derived.Test.YtaekdfknkgmfbaaGreatDoorM13
import Derived.Test.YtaekdfknkgmfbaaGreatDoorM14
import Derived.Test.YtaekdfknkgmfbaaGreatDoorM15
import Derived.Test.YtaekdfknkgmfbaaGreatDoorM16
import Derived.Test.YtaekdfknkgmfbaaGreatDoorM17
import Derived.Test.YtaekdfknkgmfbaaGreatDoorM18
import Derived.Test.YtaekdfknkgmfbaaGreatDoorM19
import Derived.Test.YtaekdfknkgmfbaaGreatDoorM20
import Derived.Test.YtaekdfknkgmfbaaGreatDoorM21
import Derived.Test.YtaekdfknkgmfbaaGreatDoorM22
import Derived.Test.YtaekdfknkgmfbaaGreatDoorM23
import Derived.Test.YtaekdfknkgmfbaaGreatDoorM24
import Derived.Test.YtaekdfknkgmfbaaGreatDoorM25
import Derived.Test.YtaekdfknkgmfbaaGreatDoorM26
import Derived.Test.YtaekdfknkgmfbaaGreatDoorM27
import Derived.Test.YtaekdfknkgmfbaaGreatDoorM28
import Derived.Test.YtaekdfknkgmfbaaGreatDoorM29
import Derived.Test.YtaekdfknkgmfbaaGreatDoorM30
import Derived.Test.YtaekdfknkgmfbaaGreatDoorM31
import Derived.Test.YtaekdfknkgmfbaaGreatDoorM32
import Derived.Test.YtaekdfknkgmfbaaGreatDoorM33
import Derived.Test.YtaekdfknkgmfbaaGreatDoorM34
import Derived.Test.YtaekdfknkgmfbaaGreatDoorM35
import Derived.Test.YtaekdfknkgmfbaaGreatDoorM36
import Derived.Test.YtaekdfknkgmfbaaGreatDoorM37
import Derived.Test.YtaekdfknkgmfbaaGreatDoorM38
import Derived.Test.YtaekdfknkgmfbaaGreatDoorM39
import Derived.Test.YtaekdfknkgmfbaaGreatDoorM40
import Derived.Test.YtaekdfknkgmfbaaGreatDoorM41
import Derived.Test.YtaekdfknkgmfbaaGreatDoorM42
import Derived.Test.YtaekdfknkgmfbaaGreatDoorM43
import Derived.Test.YtaekdfknkgmfbaaGreatDoorM44
import Derived.Test.YtaekdfknkgmfbaaGreatDoorM45
import Derived.Test.YtaekdfknkgmfbaaGreatDoorM46
import Derived.Test.YtaekdfknkgmfbaaGreatDoorM47
import Derived.Test.YtaekdfknkgmfbaaGreatDoorM48
import Derived.Test.YtaekdfknkgmfbaaGreatDoorM49
import Derived.Test.YtaekdfknkgmfbaaGreatDoorM50
import Derived.Test.YtaekdfknkgmfbaaGreatDoorQ01
import Derived.Test.YtaekdfknkgmfbaaGreatDoorP01
namespace Go.Proofs.YtaekdfknkgmfbaaGreatDoor.fnPagesShared
open Go Go.ChangeShapes Go.WideShapes Go.ChangeAt Go.RowKit
set_option linter.unusedVariables false
theorem own : ownKnob Tryz.prog.godebug=none:=by kernel_rfl
theorem laidOut : laidOutB Tryz.prog=true:=by kernel_rfl
theorem vars_length {H : Type} {enc : TypeId × Value->H} {P : Program} {w : World} {sp : Nat->Bool} : ∀ {ns : List String} {gs : List (DataW H)} {ps : List MemPlace},DataW.TrodVars enc P w sp ns gs ps->gs.length=ns.length
  | [],[],_,_=>rfl
  | [],_ :: _,_,h=>h.elim
  | _ :: _,[],_,h=>h.elim
  | n :: ns,d :: ds,_,h=>by
    obtain ⟨_,_,_,_,_,_,_,_,_,_,h',_⟩:=h;simp [vars_length h']
set_option maxRecDepth 100000 in
set_option maxHeartbeats 8000000 in
theorem walk (a0 : Option Addr) (len0 cap0 : Nat) (w : World) (w0 : Src w w.heap.size a0 len0) (ad : Nat->Addr) (hvs : VarsS w ad) :
    Calls Tryz.prog 4 #[.slice a0 len0 cap0] w fun e w'=>e = .returned (.bool true)/\Below w.heap.size w w':=by
  have hs:=w0;have hm:=hs.1;by_cases hbig : (4096 : Int) < (len0 : Int)
  · have hd : decide ((4096 : Int) < (len0 : Int))=true:=by simpa using hbig
    go_enter Tryz.func4,Tryz.ntmps4
    go_wp2_with (go_at_call 12;refine (big_any _ _ _ _ hm).mono ?_;rintro e w' ⟨rfl,rfl⟩)
    go_ret;exact ⟨rfl,Below.refl _ _⟩
  have hd : decide ((4096 : Int) < (len0 : Int))=false:=by simpa using hbig
  clear w0
  go_enter Tryz.func4,Tryz.ntmps4
  go_wp2_with fail
  refine (big_any _ _ _ _ hm).mono ?_;rintro e w' ⟨rfl,rfl⟩
  go_wp2_with fail
  refine (drawDid_any _ _ _ _ hs).mono ?_;rintro e w1 ⟨v1,v2,vb,cs,ps,bks,oq,rfl,F,fit⟩;have d:=F.d;replace hs:=hs.below d;have y0:=d.size;obtain ⟨o1,c1,o2,c2,ob,kb,rfl,rfl,rfl⟩:=F.r.forms;have rS:=F.r;have yS : w1.heap.size<=w1.heap.size:=Nat.le_refl _;have HBF : Hid (∀ y ∈ bks,BkFit y):=F.bf;have HN : Hid (∀ b ∈ bks,b.nm.size<=maxLen):=fun b hb=>(F.bf b hb).nl
  have HF : Hid (∀ b ∈ bks,FitRuns b.rs):=fun b hb=>(F.bf b hb).fit
  have hfew:=F.few;clear F
  have HO : Hid ((oq.nm.size<=maxLen/\oq.ot.size<=maxLen)/\I64 oq.k/\I64 oq.at_/\I64 oq.va/\I64 oq.ep):=by
    have h1:=fit.k;have h2:=fit.at_;have h3:=fit.va;have h4:=fit.ep;have h5:=fit.nm;have h6:=fit.ot
    refine ⟨⟨?_,?_⟩,?_,?_,?_,?_⟩ <;> (first | (unfold I64;omega) | (unfold maxLen;omega))
  have HFT : Hid (OpFit oq):=fit;obtain ⟨k,nm,ot,at_,va,ep⟩:=oq;simp only at HO ⊢;clear fit
  obtain ⟨⟨D1,rc,rv⟩,hD⟩ : ∃ x,didOp ⟨cs,ps,bks.map Bk.pb⟩ ⟨k,nm,ot,at_,va,ep⟩=x:=⟨_,rfl⟩
  have HD : Hid (didOp ⟨cs,ps,bks.map Bk.pb⟩ ⟨k,nm,ot,at_,va,ep⟩=(D1,(rc,rv))):=hD;clear hD;obtain ⟨WA,hWA,kS,kO,b,zWA⟩:=box2 w1 #[.slice o1 cs.length c1,.slice o2 ps.length c2,.slice ob bks.length kb] #[.int .i64 k,.string nm,.string ot,.int .i64 at_,.int .i64 va,.int .i64 ep] 29 31;have sS : w1.heap.size < WA.heap.size:=by omega
  have sO : w1.heap.size+1 < WA.heap.size:=by omega
  have HWA : Hid (WA = _):=hWA;clear hWA zWA;replace d:=bw_call d b;replace hs:=hs.below (b.mono y0);replace y0:=Nat.le_trans y0 b.size;replace rS:=rS.below (b.mono yS);replace yS:=Nat.le_trans yS b.size;clear b
  go_wp2_with fail
  rw [<- HWA.out];clear HWA;generalize w1.heap.size=nS at *;refine (implDid_any _ _ _ cs ps bks k nm ot at_ va ep _ ad (hvs.below d) HN.out HF.out HO.out.1.1 HO.out.1.2 HO.out.2.1 HO.out.2.2.1 HO.out.2.2.2.1 HO.out.2.2.2.2 (rS.mono yS)).mono ?_;rw [HD.out];simp only;rintro e w2 ⟨u1,u2,ub,ms,rfl,oX,hmX,b⟩;replace d:=bw_call d b;replace hs:=hs.below (b.mono y0);replace y0:=Nat.le_trans y0 b.size;replace rS:=rS.below (b.mono yS);replace yS:=Nat.le_trans yS b.size;replace kS:=(b.block _ sS).trans kS;replace sS:=Nat.lt_of_lt_of_le sS b.size;replace kO:=(b.block _ sO).trans kO;replace sO:=Nat.lt_of_lt_of_le sO b.size;clear b;obtain ⟨x1,e1,x2,e2,xb,eb,rfl,rfl,rfl⟩:=oX.forms;have HMX : Hid (ms.map Bk.pb=D1.bs):=hmX;have HXF : Hid (∀ y ∈ ms,BkFit y):=did_fits (by rw [HD.out];exact hmX);have rX:=oX.reads;have yX : w2.heap.size<=w2.heap.size:=Nat.le_refl _;clear oX hmX;obtain ⟨WB,hWB,kX,kR,b,zWB⟩:=box2 w2 #[.slice x1 D1.cs.length e1,.slice x2 D1.ps.length e2,.slice xb ms.length eb] #[.int .i64 rc,.int .i64 rv] 29 35;have sX : w2.heap.size < WB.heap.size:=by omega
  have sR : w2.heap.size+1 < WB.heap.size:=by omega
  have HWB : Hid (WB = _):=hWB;clear hWB zWB;replace d:=bw_call d b;replace hs:=hs.below (b.mono y0);replace y0:=Nat.le_trans y0 b.size;replace rS:=rS.below (b.mono yS);replace yS:=Nat.le_trans yS b.size;replace kS:=(b.block _ sS).trans kS;replace sS:=Nat.lt_of_lt_of_le sS b.size;replace kO:=(b.block _ sO).trans kO;replace sO:=Nat.lt_of_lt_of_le sO b.size;replace rX:=rX.below (b.mono yX);replace yX:=Nat.le_trans yX b.size;clear b
  go_upto_region 5 with fail
  rw [<- HWB.out];clear HWB;generalize w2.heap.size=nX at *;obtain ⟨pS0,pS1,pS2⟩:=c3 kS;obtain ⟨pO0,pO1,pO2,pO3,pO4,pO5⟩:=c6 kO
  go_wp2_with fail
  clear pS0 pS1 pS2 pO0 pO1 pO2 pO3 pO4 pO5;refine (specDidO_any _ _ _ cs ps bks k nm ot at_ va ep _ HN.out HO.out.1.1 HO.out.1.2 (rS.mono yS).p.c (rS.mono yS).p.p (rS.mono yS).b).mono ?_;rw [HD.out];simp only;rintro e w5 ⟨t1,t2,tb,rfl,oY,b⟩;replace d:=bw_call d b;replace hs:=hs.below (b.mono y0);replace y0:=Nat.le_trans y0 b.size;replace rS:=rS.below (b.mono yS);replace yS:=Nat.le_trans yS b.size;replace kS:=(b.block _ sS).trans kS;replace sS:=Nat.lt_of_lt_of_le sS b.size;replace kO:=(b.block _ sO).trans kO;replace sO:=Nat.lt_of_lt_of_le sO b.size;replace rX:=rX.below (b.mono yX);replace yX:=Nat.le_trans yX b.size;replace kX:=(b.block _ sX).trans kX;replace sX:=Nat.lt_of_lt_of_le sX b.size;replace kR:=(b.block _ sR).trans kR;replace sR:=Nat.lt_of_lt_of_le sR b.size;clear b;obtain ⟨ys,oYb,hmY⟩:=oY.b;obtain ⟨y1,g1,y2,g2,rfl,rfl⟩:=oY.p.forms;obtain ⟨yb,gb,rfl⟩:=own_slice oYb.row;have HYX : Hid (ys.map plainB=ms.map plainB):=plain_of_pb (hmY.trans HMX.out.symm)
  have rY : RS w5.heap.size w5 _ _ _ D1.cs D1.ps ys:=⟨oY.p.reads,oYb.reads⟩
  have yY : w5.heap.size<=w5.heap.size:=Nat.le_refl _;clear oY oYb hmY;obtain ⟨WD,hWD,kY,kT,b,zWD⟩:=box2 w5 #[.slice y1 D1.cs.length g1,.slice y2 D1.ps.length g2,.slice yb ys.length gb] #[.int .i64 rc,.int .i64 rv] 29 35;have sY : w5.heap.size < WD.heap.size:=by omega
  have sT : w5.heap.size+1 < WD.heap.size:=by omega
  have HWD : Hid (WD = _):=hWD;clear hWD zWD;replace d:=bw_call d b;replace hs:=hs.below (b.mono y0);replace y0:=Nat.le_trans y0 b.size;replace rS:=rS.below (b.mono yS);replace yS:=Nat.le_trans yS b.size;replace kS:=(b.block _ sS).trans kS;replace sS:=Nat.lt_of_lt_of_le sS b.size;replace kO:=(b.block _ sO).trans kO;replace sO:=Nat.lt_of_lt_of_le sO b.size;replace rX:=rX.below (b.mono yX);replace yX:=Nat.le_trans yX b.size;replace kX:=(b.block _ sX).trans kX;replace sX:=Nat.lt_of_lt_of_le sX b.size;replace kR:=(b.block _ sR).trans kR;replace sR:=Nat.lt_of_lt_of_le sR b.size;replace rY:=rY.below (b.mono yY);replace yY:=Nat.le_trans yY b.size;clear b
  go_upto_region 6 with fail
  rw [<- HWD.out];clear HWD;generalize w5.heap.size=nY at *;have hrc : (rc != rc)=false:=by simp
  have hrv : (rv != rv)=false:=by simp
  have pR0:=at_cell kR 0;have pR1:=at_cell kR 1;have pT0:=at_cell kT 0;have pT1:=at_cell kT 1;obtain ⟨pX0,pX1,pX2⟩:=c3 kX;obtain ⟨pY0,pY1,pY2⟩:=c3 kY
  go_wp2_with fail
  clear pR0 pR1 pT0 pT1 pX0 pX1 pX2 pY0 pY1 pY2;clear hrc hrv;refine (likeShelf_same _ _ _ _ _ _ D1.cs D1.ps ms ys _ HYX.out (rX.mono yX) (rY.mono yY)).mono ?_;rintro e w6 ⟨rfl,b⟩;replace d:=bw_call d b;replace hs:=hs.below (b.mono y0);replace y0:=Nat.le_trans y0 b.size;replace rS:=rS.below (b.mono yS);replace yS:=Nat.le_trans yS b.size;replace kS:=(b.block _ sS).trans kS;replace sS:=Nat.lt_of_lt_of_le sS b.size;replace kO:=(b.block _ sO).trans kO;replace sO:=Nat.lt_of_lt_of_le sO b.size;replace rX:=rX.below (b.mono yX);replace yX:=Nat.le_trans yX b.size;replace kX:=(b.block _ sX).trans kX;replace sX:=Nat.lt_of_lt_of_le sX b.size;replace kR:=(b.block _ sR).trans kR;replace sR:=Nat.lt_of_lt_of_le sR b.size;replace rY:=rY.below (b.mono yY);replace yY:=Nat.le_trans yY b.size;replace kY:=(b.block _ sY).trans kY;replace sY:=Nat.lt_of_lt_of_le sY b.size;replace kT:=(b.block _ sT).trans kT;replace sT:=Nat.lt_of_lt_of_le sT b.size;clear b;clear kY sY kT sT rY yY hs y0;clear HYX HBF HFT hfew
  obtain ⟨okv,hok⟩ : ∃ x,shelfOk ⟨cs,ps,bks.map Bk.pb⟩=x:=⟨_,rfl⟩
  have HOK : Hid (shelfOk ⟨cs,ps,bks.map Bk.pb⟩=okv):=hok;clear hok;obtain ⟨pS0,pS1,pS2⟩:=c3 kS
  go_wp2_with fail
  clear pS0 pS1 pS2;refine (specShelfOk_any _ _ _ cs ps bks _ HN.out (rS.mono yS).p.c (rS.mono yS).p.p (rS.mono yS).b).mono ?_;rw [HOK.out];rintro e wf ⟨rfl,b⟩;replace d:=bw_call d b;replace rS:=rS.below (b.mono yS);replace yS:=Nat.le_trans yS b.size;replace kS:=(b.block _ sS).trans kS;replace sS:=Nat.lt_of_lt_of_le sS b.size;replace kO:=(b.block _ sO).trans kO;replace sO:=Nat.lt_of_lt_of_le sO b.size;replace rX:=rX.below (b.mono yX);replace yX:=Nat.le_trans yX b.size;replace kX:=(b.block _ sX).trans kX;replace sX:=Nat.lt_of_lt_of_le sX b.size;replace kR:=(b.block _ sR).trans kR;replace sR:=Nat.lt_of_lt_of_le sR b.size;clear b;cases okv
  · clear HD
    go_wp2_with fail
    go_ret;exact ⟨rfl,d⟩
  by_cases hr0 : ¬ rc=0
  · have hr0b : (rc != 0)=true:=by rw [bne_iff_ne];exact hr0
    clear HD hr0;have pR0:=at_cell kR 0;have pR1:=at_cell kR 1
    go_wp2_with fail
    go_ret;exact ⟨rfl,d⟩
  obtain rfl : rc=0:=by omega
  clear hr0;have h00 : (didOp ⟨cs,ps,bks.map Bk.pb⟩ ⟨k,nm,ot,at_,va,ep⟩).2.1=0:=by rw [HD.out]
  have HSD : Hid _:=spare_did HOK.out h00;have HCD : Hid _:=copy_did (o:=⟨k,nm,ot,at_,va,ep⟩) HOK.out h00;have HKK : Hid (1<=k/\k<=9):=(opOk_bd _ (did_zero HOK.out h00).1).1;have HSW : Hid _:=zeros_few HOK.out;have hdo:=did_ok (o:=⟨k,nm,ot,at_,va,ep⟩) HOK.out;rw [HD.out] at hdo HSD HCD;have HSX : Hid _:=zeros_few hdo;simp only at HSD HCD HSW;clear h00 hdo HD;have pS0:=at_cell kS 0;have pS1:=at_cell kS 1;have pR0:=at_cell kR 0;have pR1:=at_cell kR 1
  go_wp2_with fail
  clear pS0 pS1 pR0 pR1;refine (specSpare_any _ _ cs ps _ (rS.mono yS).p.c (rS.mono yS).p.p).mono ?_;rw [HSW.out.2];rintro e wg ⟨rfl,b⟩;replace d:=bw_call d b;replace rS:=rS.below (b.mono yS);replace yS:=Nat.le_trans yS b.size;replace kS:=(b.block _ sS).trans kS;replace sS:=Nat.lt_of_lt_of_le sS b.size;replace kO:=(b.block _ sO).trans kO;replace sO:=Nat.lt_of_lt_of_le sO b.size;replace rX:=rX.below (b.mono yX);replace yX:=Nat.le_trans yX b.size;replace kX:=(b.block _ sX).trans kX;replace sX:=Nat.lt_of_lt_of_le sX b.size;replace kR:=(b.block _ sR).trans kR;replace sR:=Nat.lt_of_lt_of_le sR b.size;clear b;have pX0:=at_cell kX 0;have pX1:=at_cell kX 1
  go_wp2_with fail
  clear pX0 pX1;refine (specSpare_any _ _ D1.cs D1.ps _ (rX.mono yX).p.c (rX.mono yX).p.p).mono ?_;rw [HSX.out.2];rintro e wh ⟨rfl,b⟩;replace d:=bw_call d b;replace rS:=rS.below (b.mono yS);replace yS:=Nat.le_trans yS b.size;replace kS:=(b.block _ sS).trans kS;replace sS:=Nat.lt_of_lt_of_le sS b.size;replace kO:=(b.block _ sO).trans kO;replace sO:=Nat.lt_of_lt_of_le sO b.size;replace rX:=rX.below (b.mono yX);replace yX:=Nat.le_trans yX b.size;replace kX:=(b.block _ sX).trans kX;replace sX:=Nat.lt_of_lt_of_le sX b.size;replace kR:=(b.block _ sR).trans kR;replace sR:=Nat.lt_of_lt_of_le sR b.size;clear b;have hz1:=HSW.out.1;have hz2:=HSX.out.1
  obtain ⟨za,hza⟩ : ∃ n,zeros cs=n:=⟨_,rfl⟩
  obtain ⟨zx,hzx⟩ : ∃ n,zeros D1.cs=n:=⟨_,rfl⟩
  rw [hza,hzx] at HSD HCD ⊢;rw [hza] at hz1;rw [hzx] at hz2;clear hza hzx HSW HSX;have hks : k=1\/k=2\/k=3\/k=4\/k=5\/k=6\/k=7\/k=8\/k=9:=by have:=HKK.out;omega
  clear HKK;have hsplit : (k=4\/k=5)\/k=2\/(k=6\/k=3\/k=7)\/(k=1\/k=8\/k=9):=by omega
  clear hks;rcases hsplit with hk | hk | hk | hk
  · obtain ⟨hzz,pa,pb,ha,hb,h0a,h0b,oka,okb,hsz,hrs,hep,hfx⟩:=HCD.out hk
    obtain rfl : zx=za:=hzz;obtain ⟨i,hi,hie,hpa⟩:=find_row HMX.out nm pa h0a ha;obtain ⟨j,hj,hje,hpb⟩:=find_row HMX.out ot pb h0b hb;subst hpa hpb;have HIE : Hid (findB ms nm=(i : Int)):=hie;have HJE : Hid (findB ms ot=(j : Int)):=hje;obtain ⟨bo,bcp,hbv,-,hbc,-⟩:=(rX.mono yX).b.row;simp only [Value.slice.injEq,true_and] at hbv;obtain ⟨rfl,-⟩:=hbv;obtain ⟨g,off,rfl,hgl,hxi⟩:=hbc i (ms[i]'hi) (List.getElem?_eq_getElem hi);obtain ⟨g',off',hgg,-,hxj⟩:=hbc j (ms[j]'hj) (List.getElem?_eq_getElem hj);simp only [Option.some.injEq,Addr.mk.injEq,and_true] at hgg;obtain ⟨rfl,rfl⟩:=hgg;have HGL : Hid (g < wh.heap.size):=hgl;have hmi:=rX.b.maps _ (List.getElem_mem hi);have hmj:=rX.b.maps _ (List.getElem_mem hj);have hfi:=HXF.out _ (List.getElem_mem hi);have hfj:=HXF.out _ (List.getElem_mem hj);clear hbc hie hje ha hb h0a h0b HCD HSD
    obtain ⟨xi,hxie⟩ : ∃ x,ms[i]'hi=x:=⟨_,rfl⟩
    obtain ⟨xj,hxje⟩ : ∃ x,ms[j]'hj=x:=⟨_,rfl⟩
    rw [hxie] at hxi hmi hfi oka hsz hrs;rw [hxje] at hxj hmj hfj okb hsz hrs hep hfx;clear hxie hxje;obtain ⟨an,az,am,ar,ax,ae⟩:=xi;obtain ⟨bn,bz,bm,br,bx,be⟩:=xj;simp only [Bk.pb] at hmi hmj oka okb hsz hrs hep hfx;obtain ⟨ao,ac,rfl⟩:=hmi.form;obtain ⟨bo,bc,rfl⟩:=hmj.form;subst hsz hrs hep;have HFX : Hid (bx=decide (k=4)):=hfx;clear hfx
    have HAL : Hid (alike an az ar ae bn az ar 0=true):=by
      rw [Hid,alike];simp only [Pb.ok] at oka okb;rw [oka,okb];simp
    have HFT2 : Hid ((an.size<=maxLen/\bn.size<=maxLen)/\FitRuns ar):=⟨⟨hfi.nl,hfj.nl⟩,hfi.fit⟩
    clear hfi hfj oka okb;have ha0:=hxi 0 _ rfl;have ha1:=hxi 1 _ rfl;have ha2:=hxi 2 _ rfl;have ha3:=hxi 3 _ rfl;have ha4:=hxi 4 _ rfl;have hb0:=hxj 0 _ rfl;have hb1:=hxj 1 _ rfl;have hb2:=hxj 2 _ rfl;have hb3:=hxj 3 _ rfl;have hb4:=hxj 4 _ rfl;simp only [Nat.add_zero] at ha0 hb0;simp only at ha0 ha1 ha2 ha3 ha4 hb0 hb1 hb2 hb3 hb4;clear hxi hxj;have yA:=yX;have yB2:=yX;have pOk:=at_cell kO 0;rcases hk with rfl | rfl
    all_goals
      go_upto_region 15 with fail
      go_cut [11] (fun v wx=>v = .pointer (some ⟨wh.heap.size,0,none⟩)/\wx.heap[wh.heap.size]? = some (.cells #[.string an,.int .i64 az,.slice ao ar.length ac,.bool ax,.int .i64 ae] 48 (0,0))/\Below wh.heap.size wh wx)
      case first =>
        have BD : Below wh.heap.size wh wh.drew:=bw_drew (Below.refl _ _);have BA : Below wh.heap.size wh (wh.alloc (.cells #[.string ⟨#[]⟩,.int .i64 0,.slice none 0 0,.bool false,.int .i64 0] 48)).drew:=bw_drew (bw_alloc (Below.refl _ _));have kXd:=(BD.block _ (heap_lt kX)).trans kX;have kXa:=(BA.block _ (heap_lt kX)).trans kX;have kOd:=(BD.block _ (heap_lt kO)).trans kO;have kOa:=(BA.block _ (heap_lt kO)).trans kO;have xd:=at_cell kXd 2;have xa:=at_cell kXa 2;have od:=at_cell kOd 1;have oa:=at_cell kOa 1;have RD:=((rX.mono yX).below BD).mono BD.size;have RA:=((rX.mono yX).below BA).mono BA.size;have hgw : g < wh.heap.size:=by have:=HGL.out;omega
        have e0d : wh.drew.cell? ⟨g,off+i * 5,none⟩=some (.string an):=(BD.cell (p:=⟨g,off+i * 5,none⟩) hgw).trans ha0;have e0a : (wh.alloc (.cells #[.string ⟨#[]⟩,.int .i64 0,.slice none 0 0,.bool false,.int .i64 0] 48)).drew.cell? ⟨g,off+i * 5,none⟩=some (.string an):=(BA.cell (p:=⟨g,off+i * 5,none⟩) hgw).trans ha0;have e1d : wh.drew.cell? ⟨g,off+i * 5+1,none⟩=some (.int .i64 az):=(BD.cell (p:=⟨g,off+i * 5+1,none⟩) hgw).trans ha1;have e1a : (wh.alloc (.cells #[.string ⟨#[]⟩,.int .i64 0,.slice none 0 0,.bool false,.int .i64 0] 48)).drew.cell? ⟨g,off+i * 5+1,none⟩=some (.int .i64 az):=(BA.cell (p:=⟨g,off+i * 5+1,none⟩) hgw).trans ha1;have e2d : wh.drew.cell? ⟨g,off+i * 5+2,none⟩=some (.slice ao ar.length ac):=(BD.cell (p:=⟨g,off+i * 5+2,none⟩) hgw).trans ha2;have e2a : (wh.alloc (.cells #[.string ⟨#[]⟩,.int .i64 0,.slice none 0 0,.bool false,.int .i64 0] 48)).drew.cell? ⟨g,off+i * 5+2,none⟩=some (.slice ao ar.length ac):=(BA.cell (p:=⟨g,off+i * 5+2,none⟩) hgw).trans ha2;have e3d : wh.drew.cell? ⟨g,off+i * 5+3,none⟩=some (.bool ax):=(BD.cell (p:=⟨g,off+i * 5+3,none⟩) hgw).trans ha3;have e3a : (wh.alloc (.cells #[.string ⟨#[]⟩,.int .i64 0,.slice none 0 0,.bool false,.int .i64 0] 48)).drew.cell? ⟨g,off+i * 5+3,none⟩=some (.bool ax):=(BA.cell (p:=⟨g,off+i * 5+3,none⟩) hgw).trans ha3;have e4d : wh.drew.cell? ⟨g,off+i * 5+4,none⟩=some (.int .i64 ae):=(BD.cell (p:=⟨g,off+i * 5+4,none⟩) hgw).trans ha4;have e4a : (wh.alloc (.cells #[.string ⟨#[]⟩,.int .i64 0,.slice none 0 0,.bool false,.int .i64 0] 48)).drew.cell? ⟨g,off+i * 5+4,none⟩=some (.int .i64 ae):=(BA.cell (p:=⟨g,off+i * 5+4,none⟩) hgw).trans ha4;have kN:=heap_alloc_new wh (.cells #[.string an,.int .i64 az,.slice ao ar.length ac,.bool ax,.int .i64 ae] 48);have i0 : (0 : Int)<=(i : Int):=by omega
        have i1 : (i : Int) < (ms.length : Int):=by omega
        have HRR : Hid _:=And.intro RD.b.row RA.b.row;clear kXd kXa kOd kOa RD RA
        have HKeep : ∀ X,Below wh.heap.size wh X->(X.cell? ⟨nX,2,none⟩=some (.slice (some ⟨g,off,none⟩) ms.length eb)/\X.cell? ⟨nS+1,1,none⟩=some (.string nm)/\X.cell? ⟨g,off+i * 5,none⟩=some (.string an)/\X.cell? ⟨g,off+i * 5+1,none⟩=some (.int .i64 az)/\X.cell? ⟨g,off+i * 5+2,none⟩=some (.slice ao ar.length ac)/\X.cell? ⟨g,off+i * 5+3,none⟩=some (.bool ax)/\X.cell? ⟨g,off+i * 5+4,none⟩=some (.int .i64 ae)):=fun X hb=>by
          have x0:=(hb.block _ (heap_lt kX)).trans kX;have x1:=(hb.block _ (heap_lt kO)).trans kO;exact ⟨at_cell x0 2,at_cell x1 1,(hb.cell (p:=⟨g,off+i * 5,none⟩) hgw).trans ha0,(hb.cell (p:=⟨g,off+i * 5+1,none⟩) hgw).trans ha1,(hb.cell (p:=⟨g,off+i * 5+2,none⟩) hgw).trans ha2,(hb.cell (p:=⟨g,off+i * 5+3,none⟩) hgw).trans ha3,(hb.cell (p:=⟨g,off+i * 5+4,none⟩) hgw).trans ha4⟩
        clear e0d e0a e1d e1a e2d e2a e3d e3a e4d e4a xd xa od oa
        go_region_held3 (fun w'=>w'.cell? ⟨nX,2,none⟩=some (.slice (some ⟨g,off,none⟩) ms.length eb)/\w'.cell? ⟨nS+1,1,none⟩=some (.string nm)/\w'.cell? ⟨g,off+i * 5,none⟩=some (.string an)/\w'.cell? ⟨g,off+i * 5+1,none⟩=some (.int .i64 az)/\w'.cell? ⟨g,off+i * 5+2,none⟩=some (.slice ao ar.length ac)/\w'.cell? ⟨g,off+i * 5+3,none⟩=some (.bool ax)/\w'.cell? ⟨g,off+i * 5+4,none⟩=some (.int .i64 ae))
          ((refine HKeep _ ?_;repeat (first | exact Below.refl _ _ | refine bw_drew ?_ | refine bw_alloc ?_ | refine bw_set ?_ (Nat.le_refl _) _)))
          ((go_at_call 26
            refine (specFindBook_any _ ms nm _ (by first | exact HRR.out.1 | exact HRR.out.2)).mono ?_;rw [HIE.out]
            rintro e wq ⟨rfl,rfl⟩))
        all_goals
          go_wp2_with fail
          go_meet
          exact ⟨rfl,kN,bw_drew (bw_alloc (Below.refl _ _))⟩
      case rest =>
      obtain ⟨rfl,kA,b⟩:=hcut;have hgw : g < wh.heap.size:=HGL.out;replace hb0:=(b.cell (p:=⟨g,off+j * 5,none⟩) hgw).trans hb0;replace hb1:=(b.cell (p:=⟨g,off+j * 5+1,none⟩) hgw).trans hb1;replace hb2:=(b.cell (p:=⟨g,off+j * 5+2,none⟩) hgw).trans hb2;replace hb3:=(b.cell (p:=⟨g,off+j * 5+3,none⟩) hgw).trans hb3;replace hb4:=(b.cell (p:=⟨g,off+j * 5+4,none⟩) hgw).trans hb4;replace HGL : Hid (g < wc.heap.size):=Nat.lt_of_lt_of_le hgw b.size;clear hgw ha0 ha1 ha2 ha3 ha4;have sA:=heap_lt kA;replace d:=bw_call d b;replace rS:=rS.below (b.mono yS);replace yS:=Nat.le_trans yS b.size;replace kS:=(b.block _ sS).trans kS;replace sS:=Nat.lt_of_lt_of_le sS b.size;replace kO:=(b.block _ sO).trans kO;replace sO:=Nat.lt_of_lt_of_le sO b.size;replace rX:=rX.below (b.mono yX);replace yX:=Nat.le_trans yX b.size;replace kX:=(b.block _ sX).trans kX;replace sX:=Nat.lt_of_lt_of_le sX b.size;replace kR:=(b.block _ sR).trans kR;replace sR:=Nat.lt_of_lt_of_le sR b.size;replace hmi:=hmi.below (b.mono yA);replace yA:=Nat.le_trans yA b.size;replace hmj:=hmj.below (b.mono yB2);replace yB2:=Nat.le_trans yB2 b.size;clear b;generalize wh.heap.size=nA at *
      rename World=>wk
      go_upto_region 16 with fail
      go_cut [12] (fun v wx=>v = .pointer (some ⟨wk.heap.size,0,none⟩)/\wx.heap[wk.heap.size]? = some (.cells #[.string bn,.int .i64 az,.slice bo ar.length bc,.bool bx,.int .i64 0] 48 (0,0))/\Below wk.heap.size wk wx)
      case first =>
        have BD : Below wk.heap.size wk wk.drew:=bw_drew (Below.refl _ _);have BA : Below wk.heap.size wk (wk.alloc (.cells #[.string ⟨#[]⟩,.int .i64 0,.slice none 0 0,.bool false,.int .i64 0] 48)).drew:=bw_drew (bw_alloc (Below.refl _ _));have kXd:=(BD.block _ (heap_lt kX)).trans kX;have kXa:=(BA.block _ (heap_lt kX)).trans kX;have kOd:=(BD.block _ (heap_lt kO)).trans kO;have kOa:=(BA.block _ (heap_lt kO)).trans kO;have xd:=at_cell kXd 2;have xa:=at_cell kXa 2;have od:=at_cell kOd 2;have oa:=at_cell kOa 2;have RD:=((rX.mono yX).below BD).mono BD.size;have RA:=((rX.mono yX).below BA).mono BA.size;have hgw : g < wk.heap.size:=by have:=HGL.out;omega
        have e0d : wk.drew.cell? ⟨g,off+j * 5,none⟩=some (.string bn):=(BD.cell (p:=⟨g,off+j * 5,none⟩) hgw).trans hb0;have e0a : (wk.alloc (.cells #[.string ⟨#[]⟩,.int .i64 0,.slice none 0 0,.bool false,.int .i64 0] 48)).drew.cell? ⟨g,off+j * 5,none⟩=some (.string bn):=(BA.cell (p:=⟨g,off+j * 5,none⟩) hgw).trans hb0;have e1d : wk.drew.cell? ⟨g,off+j * 5+1,none⟩=some (.int .i64 az):=(BD.cell (p:=⟨g,off+j * 5+1,none⟩) hgw).trans hb1;have e1a : (wk.alloc (.cells #[.string ⟨#[]⟩,.int .i64 0,.slice none 0 0,.bool false,.int .i64 0] 48)).drew.cell? ⟨g,off+j * 5+1,none⟩=some (.int .i64 az):=(BA.cell (p:=⟨g,off+j * 5+1,none⟩) hgw).trans hb1;have e2d : wk.drew.cell? ⟨g,off+j * 5+2,none⟩=some (.slice bo ar.length bc):=(BD.cell (p:=⟨g,off+j * 5+2,none⟩) hgw).trans hb2;have e2a : (wk.alloc (.cells #[.string ⟨#[]⟩,.int .i64 0,.slice none 0 0,.bool false,.int .i64 0] 48)).drew.cell? ⟨g,off+j * 5+2,none⟩=some (.slice bo ar.length bc):=(BA.cell (p:=⟨g,off+j * 5+2,none⟩) hgw).trans hb2;have e3d : wk.drew.cell? ⟨g,off+j * 5+3,none⟩=some (.bool bx):=(BD.cell (p:=⟨g,off+j * 5+3,none⟩) hgw).trans hb3;have e3a : (wk.alloc (.cells #[.string ⟨#[]⟩,.int .i64 0,.slice none 0 0,.bool false,.int .i64 0] 48)).drew.cell? ⟨g,off+j * 5+3,none⟩=some (.bool bx):=(BA.cell (p:=⟨g,off+j * 5+3,none⟩) hgw).trans hb3;have e4d : wk.drew.cell? ⟨g,off+j * 5+4,none⟩=some (.int .i64 0):=(BD.cell (p:=⟨g,off+j * 5+4,none⟩) hgw).trans hb4;have e4a : (wk.alloc (.cells #[.string ⟨#[]⟩,.int .i64 0,.slice none 0 0,.bool false,.int .i64 0] 48)).drew.cell? ⟨g,off+j * 5+4,none⟩=some (.int .i64 0):=(BA.cell (p:=⟨g,off+j * 5+4,none⟩) hgw).trans hb4;have kN:=heap_alloc_new wk (.cells #[.string bn,.int .i64 az,.slice bo ar.length bc,.bool bx,.int .i64 0] 48);have i0 : (0 : Int)<=(j : Int):=by omega
        have i1 : (j : Int) < (ms.length : Int):=by omega
        have HRR : Hid _:=And.intro RD.b.row RA.b.row;clear kXd kXa kOd kOa RD RA
        have HKeep : ∀ X,Below wk.heap.size wk X->(X.cell? ⟨nX,2,none⟩=some (.slice (some ⟨g,off,none⟩) ms.length eb)/\X.cell? ⟨nS+1,2,none⟩=some (.string ot)/\X.cell? ⟨g,off+j * 5,none⟩=some (.string bn)/\X.cell? ⟨g,off+j * 5+1,none⟩=some (.int .i64 az)/\X.cell? ⟨g,off+j * 5+2,none⟩=some (.slice bo ar.length bc)/\X.cell? ⟨g,off+j * 5+3,none⟩=some (.bool bx)/\X.cell? ⟨g,off+j * 5+4,none⟩=some (.int .i64 0)):=fun X hb=>by
          have x0:=(hb.block _ (heap_lt kX)).trans kX;have x1:=(hb.block _ (heap_lt kO)).trans kO;exact ⟨at_cell x0 2,at_cell x1 2,(hb.cell (p:=⟨g,off+j * 5,none⟩) hgw).trans hb0,(hb.cell (p:=⟨g,off+j * 5+1,none⟩) hgw).trans hb1,(hb.cell (p:=⟨g,off+j * 5+2,none⟩) hgw).trans hb2,(hb.cell (p:=⟨g,off+j * 5+3,none⟩) hgw).trans hb3,(hb.cell (p:=⟨g,off+j * 5+4,none⟩) hgw).trans hb4⟩
        clear e0d e0a e1d e1a e2d e2a e3d e3a e4d e4a xd xa od oa
        go_region_held3 (fun w'=>w'.cell? ⟨nX,2,none⟩=some (.slice (some ⟨g,off,none⟩) ms.length eb)/\w'.cell? ⟨nS+1,2,none⟩=some (.string ot)/\w'.cell? ⟨g,off+j * 5,none⟩=some (.string bn)/\w'.cell? ⟨g,off+j * 5+1,none⟩=some (.int .i64 az)/\w'.cell? ⟨g,off+j * 5+2,none⟩=some (.slice bo ar.length bc)/\w'.cell? ⟨g,off+j * 5+3,none⟩=some (.bool bx)/\w'.cell? ⟨g,off+j * 5+4,none⟩=some (.int .i64 0))
          ((refine HKeep _ ?_;repeat (first | exact Below.refl _ _ | refine bw_drew ?_ | refine bw_alloc ?_ | refine bw_set ?_ (Nat.le_refl _) _)))
          ((go_at_call 26
            refine (specFindBook_any _ ms ot _ (by first | exact HRR.out.1 | exact HRR.out.2)).mono ?_;rw [HJE.out]
            rintro e wq ⟨rfl,rfl⟩))
        all_goals
          go_wp2_with fail
          go_meet
          exact ⟨rfl,kN,bw_drew (bw_alloc (Below.refl _ _))⟩
      case rest =>
      obtain ⟨rfl,kB,b⟩:=hcut;have sB:=heap_lt kB;replace d:=bw_call d b;replace rS:=rS.below (b.mono yS);replace yS:=Nat.le_trans yS b.size;replace kS:=(b.block _ sS).trans kS;replace sS:=Nat.lt_of_lt_of_le sS b.size;replace kO:=(b.block _ sO).trans kO;replace sO:=Nat.lt_of_lt_of_le sO b.size;replace rX:=rX.below (b.mono yX);replace yX:=Nat.le_trans yX b.size;replace kX:=(b.block _ sX).trans kX;replace sX:=Nat.lt_of_lt_of_le sX b.size;replace kR:=(b.block _ sR).trans kR;replace sR:=Nat.lt_of_lt_of_le sR b.size;replace hmi:=hmi.below (b.mono yA);replace yA:=Nat.le_trans yA b.size;replace hmj:=hmj.below (b.mono yB2);replace yB2:=Nat.le_trans yB2 b.size;replace kA:=(b.block _ sA).trans kA;replace sA:=Nat.lt_of_lt_of_le sA b.size;clear b;generalize wk.heap.size=nB at *;clear HIE HJE HGL hb0 hb1 hb2 hb3 hb4
      rename World=>wl
      obtain ⟨pA0,pA1,pA2,pA3,pA4⟩:=c5 kA;obtain ⟨pB0,pB1,pB2,pB3,pB4⟩:=c5 kB;have pO0:=at_cell kO 0;have hzz2 : ((zx : Int) == (zx : Int))=true:=by simp
      go_wp2_with fail
      refine (implAlike_any an az _ ar ax ae bn az _ ar bx 0 _ HFT2.out.1.1 HFT2.out.1.2 HFT2.out.2 HFT2.out.2 (hmi.mono yA) (hmj.mono yB2)).mono ?_;rw [HAL.out];rintro e wz ⟨rfl,b⟩;clear pA0 pA1 pA2 pA3 pA4 pB0 pB1 pB2 pB3 pB4 pO0;replace d:=bw_call d b;replace rS:=rS.below (b.mono yS);replace yS:=Nat.le_trans yS b.size;replace kS:=(b.block _ sS).trans kS;replace sS:=Nat.lt_of_lt_of_le sS b.size;replace kO:=(b.block _ sO).trans kO;replace sO:=Nat.lt_of_lt_of_le sO b.size;replace rX:=rX.below (b.mono yX);replace yX:=Nat.le_trans yX b.size;replace kX:=(b.block _ sX).trans kX;replace sX:=Nat.lt_of_lt_of_le sX b.size;replace kR:=(b.block _ sR).trans kR;replace sR:=Nat.lt_of_lt_of_le sR b.size;replace hmi:=hmi.below (b.mono yA);replace yA:=Nat.le_trans yA b.size;replace hmj:=hmj.below (b.mono yB2);replace yB2:=Nat.le_trans yB2 b.size;replace kA:=(b.block _ sA).trans kA;replace sA:=Nat.lt_of_lt_of_le sA b.size;replace kB:=(b.block _ sB).trans kB;replace sB:=Nat.lt_of_lt_of_le sB b.size;clear b;have hbx:=HFX.out;have pB3:=at_cell kB 3;have pB4:=at_cell kB 4;have pO0:=at_cell kO 0;subst hbx
      go_wp2_with fail
      go_ret;exact ⟨by first | rfl | simp,d⟩
  · have h1:=HSD.out.1 hk
    subst hk;clear HSD HCD;have hw : IntKind.i64.wrap ((za : Int) - 1)=(za : Int) - 1:=by rw [IntKind.wrap_i64];omega
    obtain ⟨pO0,pO1,pO2,pO3,pO4,pO5⟩:=c6 kO;rcases h1 with h1 | h1
    · have h2 : ((zx : Int) == (za : Int))=true:=by rw [h1];simp
      go_wp2_with fail
      go_ret;exact ⟨rfl,d⟩
    · have h2 : ((zx : Int) == (za : Int))=false:=by rw [beq_eq_false_iff_ne];omega
      have h3 : ¬ (zx : Int)=(za : Int):=by omega
      have h4 : ((zx : Int) == (za : Int) - 1)=true:=by rw [h1];simp
      go_wp2_with fail
      go_ret;exact ⟨rfl,d⟩
  · have h1:=HSD.out.2.1 hk
    have h2 : (za : Int)<=(zx : Int):=by omega
    clear HSD HCD;rcases hk with rfl | rfl | rfl
    all_goals
      obtain ⟨pO0,pO1,pO2,pO3,pO4,pO5⟩:=c6 kO
      go_wp2_with fail
      go_ret;exact ⟨by first | rfl | (exact ret_bool (decide_eq_true h2)) | simp [h2],d⟩
  · have h1:=HSD.out.2.2 hk
    subst h1;clear HSD HCD;rcases hk with rfl | rfl | rfl
    all_goals
      obtain ⟨pO0,pO1,pO2,pO3,pO4,pO5⟩:=c6 kO
      go_wp2_with fail
      go_ret;exact ⟨by first | rfl | simp,d⟩
set_option maxRecDepth 100000 in
theorem lifted (os : Os) (started : os.Started) (H : Type) (enc : TypeId × Value->H) :
    ReturnsInHanded {} Tryz.checked os 4 .any (fun w args=>(Rows.fnPagesSharedSpec.pre enc Tryz.prog Tryz.f4 Rows.fnPagesSharedRow.domain false w args/\laidMetH Tryz.prog Rows.fnPagesSharedRow.laid w)/\sizedMet enc Tryz.prog Tryz.f4 (OpenSpec.ofChange Rows.fnPagesSharedSpec) false w args) (Rows.fnPagesSharedSpec.post enc Tryz.prog Tryz.f4 false true false false):=by
  refine returnsInHanded_of_change_and (C:=Tryz.checked) (X:=fun w _=>laidMetH Tryz.prog Rows.fnPagesSharedRow.laid w) (fun _ _ _ hh h=>h.of_heap hh) own started (by kernel_rfl) Tryz.func4
    (ChangeSpec.witness_at (enc:=enc) (C:=Tryz.checked) (os:=os) (X:=fun w _=>laidMetH Tryz.prog Rows.fnPagesSharedRow.laid w) false (laidWorld os) #[.slice none 0 0] 8 rfl (by kernel_rfl) (by kernel_rfl) (by kernel_rfl) (by kernel_rfl) (by kernel_rfl) (show laidMetH Tryz.prog laidAll _ from laid_ten os _)) ?_
  intro W base args ds gs before hval0 hW _ _ hL _;have hval : ∀ (j : Nat) t v,Tryz.f4.params[j]? = some t->args[j]? = some v->Value.okWide Tryz.prog W .any base t v:=hval0;have hW':=hW;obtain ⟨p,q,hA0,hV,rfl,hfz,hnd⟩:=hW;have hA : DataW.TrodAll enc Tryz.prog W 0 (fun _=>true) true Tryz.f4.params.toList args.toList ds p:=hA0;have hVN : DataW.TrodVars enc Tryz.prog W (fun _=>true) ["loop.example/g00372/impl.errWrongShelf","loop.example/g00372/impl.errWrongOp","loop.example/g00372/impl.errNoBook","loop.example/g00372/impl.errBookThere","loop.example/g00372/impl.errFenced","loop.example/g00372/impl.errFixed","loop.example/g00372/impl.errRange","loop.example/g00372/impl.errManyBooks","loop.example/g00372/impl.errWorn","loop.example/g00372/impl.errNoPage"] gs q:=hV;have hvl:=vars_length hVN;rw [Tryz.params4] at hA hval;obtain ⟨v0,vs0,d0,ds0,p0,q0,hargs,rfl,rfl,h0,rr0⟩:=trodAll_cons hA;obtain ⟨rfl,rfl,rfl⟩:=trodAll_nil rr0;obtain rfl : args = #[v0]:=by cases args;simp_all
  have kk0:=h0;have lt0 : ∀ x ∈ p0,x.block < W.heap.size:=by obtain ⟨fuel,hfuel⟩:=kk0;exact DataW.trod_lt fuel _ _ _ hfuel
  obtain ⟨a0,len0,cap0,rfl,w0⟩:=open_bytes (hval 0 22 v0 rfl rfl) h0;clear hA0 hval0;refine (walk a0 len0 cap0 W w0 (adOf W) (vars_ten (show laidMetH Tryz.prog laidAll W from hL))).mono fun e W' ⟨he,bel⟩=>?_
  subst he
  match gs,hvl,hVN with
  | [g1,g2,g3,g4,g5,g6,g7,g8,g9,g10],_,hVN =>
    exact ⟨_,rfl,_,_,_,[],_,q,hW',trodAll_mk1 (shut_bool Tryz.underlying4 _),(trodAll_cons_mk (Below.trod laidOut (by kernel_rfl) (of_decide_eq_true (by kernel_rfl)) kk0 bel lt0) trodAll_mk0),Below.trodVars laidOut bel (by kernel_rfl) hVN,bel.frame _,fun h=>by cases h⟩
theorem over : Rows.fnPagesSharedRow.holds Tryz.pinned (OpenSpec.ofChange Rows.fnPagesSharedSpec) :=
  OpenClaim.holds_of_wide 4 Tryz.f4 rfl rfl rfl rfl rfl rfl rfl ⟨rfl,rfl,rfl,rfl,rfl⟩ rfl rfl rfl rfl rfl hfn Tryz.func4 closed hinst hwrap
    (fun os started H enc _=>lifted os started H enc)
theorem proved : Rows.FnPagesSharedCardSaid :=
  Claim7.holds_tied_plain_at .later [] [.handle,.sentinel,.sentinel,.sentinel,.sentinel,.sentinel,.sentinel,.sentinel,.sentinel,.sentinel,.sentinel] true (true,"b2287236bee097b051ce9616ae8ae0340ef641078460b544a384993f62e4c8ab") true over (fun _ h=>by cases h) byText (fun _ h=>by cases h) fnPagesShared_row_tie rfl ⟨rfl,rfl⟩ mainIs rfl
    (fun f fn hf hfn'=>by
      obtain rfl : f=4:=(Option.some.inj (hfn.symm.trans hf)).symm;obtain rfl : fn=Tryz.f4:=(Option.some.inj (Tryz.func4.symm.trans hfn')).symm
      exact ⟨looks,fun j t ht=>by
        rw [Tryz.params4] at ht;have hm : t ∈ [22]:=by have h:=Array.mem_of_getElem? ht;simpa using h
        simp only [List.mem_cons,List.mem_nil_iff,or_false] at hm;rcases hm with rfl
        · exact stand22⟩)
    goes
#print axioms proved
end Go.Proofs.YtaekdfknkgmfbaaGreatDoor.fnPagesShared
