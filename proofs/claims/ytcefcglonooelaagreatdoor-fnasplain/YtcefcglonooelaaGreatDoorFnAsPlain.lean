/-
  The law FnAsPlain answers true at every input that the row speaks of, its arguments and the named variables read afterwards as before; the listed variables are tied to the program's text; the walk goes over the callees' contracts.
-/
import Derived.Test.YtcefcglonooelaaGreatDoorRows
import Derived.Test.YtcefcglonooelaaGreatDoorTie
import Derived.Test.YtcefcglonooelaaGreatDoorCards
import Derived.SevenTiedAt
import Derived.JoinedOf
import Derived.OpenVars
import Derived.WalkKit
import Derived.ProofKit
import Derived.OpenShut
import Derived.ChangeOld
import Derived.Below
import Derived.Carry
import Derived.Test.YtcefcglonooelaaGreatDoorChecked
import Derived.ShutString
import Derived.Lib.SmallJoins
import Derived.SliceStrings
import Derived.ChangeSlices
import Derived.Deep.RegionWith
import Derived.Test.YtcefcglonooelaaGreatDoorA01
import Derived.Test.YtcefcglonooelaaGreatDoorA07
import Derived.Test.YtcefcglonooelaaGreatDoorA08
import Derived.Test.YtcefcglonooelaaGreatDoorA11
import Derived.Test.YtcefcglonooelaaGreatDoorA32
import Derived.Test.YtcefcglonooelaaGreatDoorA35
import Derived.Test.YtcefcglonooelaaGreatDoorA39
import Derived.Test.YtcefcglonooelaaGreatDoorA40
import Derived.Test.YtcefcglonooelaaGreatDoorA42
import Derived.Test.YtcefcglonooelaaGreatDoorA48
namespace Go.Proofs.YtcefcglonooelaaGreatDoor.fnAsPlain
open Go Go.ChangeShapes Go.WideShapes Go.ChangeAt Go.RowKit
set_option linter.unusedVariables false
theorem own : ownKnob Tryz.prog.godebug = none := by kernel_rfl
theorem laidOut : laidOutB Tryz.prog = true := by kernel_rfl
theorem vars_length {H : Type} {enc : TypeId × Value -> H} {P : Program} {w : World} {sp : Nat -> Bool} : ∀ {ns : List String} {gs : List (DataW H)} {ps : List MemPlace},DataW.TrodVars enc P w sp ns gs ps -> gs.length = ns.length
  | [],[],_,_ => rfl
  | [],_ :: _,_,h => h.elim
  | _ :: _,[],_,h => h.elim
  | n :: ns,d :: ds,_,h => by
    obtain ⟨_,_,_,_,_,_,_,_,_,_,h',_⟩ := h;simp [vars_length h']
set_option maxRecDepth 100000 in
set_option maxHeartbeats 8000000 in
theorem walk (a0 : Option Addr) (len0 cap0 : Nat) (w : World) (w0 : Src w w.heap.size a0 len0) (ad : Nat -> Addr) (hvs : Vars w ad) :
    Calls Tryz.prog 4 #[.slice a0 len0 cap0] w fun e w' => e = .returned (.bool true) /\ Below w.heap.size w w' := by
  have hs := w0;have hm := hs.1;by_cases hbig : (4096 : Int) < (len0 : Int)
  · have hd : decide ((4096 : Int) < (len0 : Int)) = true := by simpa using hbig
    go_enter Tryz.func4,Tryz.ntmps4
    go_wp2_with (go_at_call 7;refine (big_any _ _ _ _ hm).mono ?_;rintro e w' ⟨rfl,rfl⟩)
    go_ret;exact ⟨rfl,Below.refl _ _⟩
  have hd : decide ((4096 : Int) < (len0 : Int)) = false := by simpa using hbig
  have HV : Hid (Vars w ad) := by first | exact hvs | exact hvs.v
  clear w0 hbig hvs
  go_enter Tryz.func4,Tryz.ntmps4
  go_wp2_with fail
  refine (big_any _ _ _ _ hm).mono ?_;rintro e w' ⟨rfl,rfl⟩
  go_wp2_with fail
  refine (drawDid_any _ _ _ _ hs).mono ?_;rintro e w1 ⟨v1,v2,vb,cs,ps,bks,oq,rfl,F,fit⟩;have d := F.d;replace hs := hs.below d;have y0 := d.size;obtain ⟨o1,c1,o2,c2,ob,kb,rfl,rfl,rfl⟩ := F.r.forms
  have oS : OwnV w'.heap.size w1 (.slice o1 cs.length c1) (.slice o2 ps.length c2) (.slice ob bks.length kb) cs ps bks := ⟨F.r.p,F.ob⟩
  have HN : Hid (∀ b ∈ bks,b.nm.size <= maxLen) := fun b hb => (F.bf b hb).nl
  have HF : Hid (∀ b ∈ bks,FitRuns b.rs) := fun b hb => (F.bf b hb).fit
  clear F
  have HO : Hid ((oq.nm.size <= maxLen /\ oq.ot.size <= maxLen) /\ I64 oq.k /\ I64 oq.at_ /\ I64 oq.va /\ I64 oq.ep) := by
    have h1 := fit.k;have h2 := fit.at_;have h3 := fit.va;have h4 := fit.ep;have h5 := fit.nm;have h6 := fit.ot
    refine ⟨⟨?_,?_⟩,?_,?_,?_,?_⟩ <;> (first | (unfold I64;omega) | (unfold maxLen;omega))
  obtain ⟨k,nm,ot,at_,va,ep⟩ := oq;simp only at HO ⊢;clear fit;obtain ⟨WA,hWA,kS,kO,b,zWA⟩ := box2 w1 #[.slice o1 cs.length c1,.slice o2 ps.length c2,.slice ob bks.length kb] #[.int .i64 k,.string nm,.string ot,.int .i64 at_,.int .i64 va,.int .i64 ep] 42 26;have sS : w1.heap.size < WA.heap.size := by omega
  have sO : w1.heap.size + 1 < WA.heap.size := by omega
  have HWA : Hid (WA = _) := hWA;clear hWA zWA;replace d := bw_call d b;replace hs := hs.below (b.mono y0);replace y0 := Nat.le_trans y0 b.size;replace oS := oS.below b;clear b
  go_upto_region 4 with fail
  rw [<- HWA.out];clear HWA;generalize w1.heap.size = nS at *
  go_wp2_with fail
  refine (drawShown_any _ _ _ _ (hs.mono y0)).mono ?_;rintro e w2 ⟨q1v,q2v,qbv,qcs,qps,qbks,rfl,G⟩;have b := G.d;have HQN : Hid (∀ b ∈ qbks,b.nm.size <= maxLen) := fun b hb => (G.bf b hb).nl
  have HQF : Hid (∀ b ∈ qbks,FitRuns b.rs) := fun b hb => (G.bf b hb).fit
  obtain ⟨a1,b1,a2,b2,a3,b3,rfl,rfl,rfl⟩ := G.r.forms
  have oQ : OwnV WA.heap.size w2 (.slice a1 qcs.length b1) (.slice a2 qps.length b2) (.slice a3 qbks.length b3) qcs qps qbks := ⟨G.r.p,G.ob⟩
  clear G;replace d := bw_call d b;replace hs := hs.below (b.mono y0);replace y0 := Nat.le_trans y0 b.size;replace oS := oS.below b;replace kS := (b.block _ sS).trans kS;replace sS := Nat.lt_of_lt_of_le sS b.size;replace kO := (b.block _ sO).trans kO;replace sO := Nat.lt_of_lt_of_le sO b.size;clear b;have b : Below w2.heap.size w2 (w2.alloc (.cells #[.slice a1 qcs.length b1,.slice a2 qps.length b2,.slice a3 qbks.length b3] 42)) := bw_alloc (Below.refl _ _);have kQ := heap_alloc_new w2 (.cells #[.slice a1 qcs.length b1,.slice a2 qps.length b2,.slice a3 qbks.length b3] 42);have sQ : w2.heap.size < (w2.alloc (.cells #[.slice a1 qcs.length b1,.slice a2 qps.length b2,.slice a3 qbks.length b3] 42)).heap.size := by simp
  replace d := bw_call d b;replace hs := hs.below (b.mono y0);replace y0 := Nat.le_trans y0 b.size;replace oS := oS.below b;replace kS := (b.block _ sS).trans kS;replace sS := Nat.lt_of_lt_of_le sS b.size;replace kO := (b.block _ sO).trans kO;replace sO := Nat.lt_of_lt_of_le sO b.size;replace oQ := oQ.below b;clear b;obtain ⟨pkQ0,pkQ1,pkQ2⟩ := c3 kQ
  go_wp2_with fail
  clear pkQ0 pkQ1 pkQ2;generalize w2.alloc (.cells #[.slice a1 qcs.length b1,.slice a2 qps.length b2,.slice a3 qbks.length b3] 42) = WQ at *;generalize w2.heap.size = nQ at *;refine (implShownPlainV_any _ _ _ _ qcs qps qbks _ HQN.out HQF.out oQ).mono ?_;rintro e w3 ⟨gp,cp',msp,rfl,hmp,op,-,b⟩;have HMP : Hid (msp.map Pk.pv = shownPlain ⟨qcs,qps,qbks.map Bk.pb⟩) := hmp;clear hmp;replace d := bw_call d b;replace hs := hs.below (b.mono y0);replace y0 := Nat.le_trans y0 b.size;replace oS := oS.below b;replace kS := (b.block _ sS).trans kS;replace sS := Nat.lt_of_lt_of_le sS b.size;replace kO := (b.block _ sO).trans kO;replace sO := Nat.lt_of_lt_of_le sO b.size;replace oQ := oQ.below b;replace kQ := (b.block _ sQ).trans kQ;replace sQ := Nat.lt_of_lt_of_le sQ b.size;clear b;obtain ⟨pkQ0,pkQ1,pkQ2⟩ := c3 kQ
  go_wp2_with fail
  clear pkQ0 pkQ1 pkQ2;refine (specShownPlain_any _ _ _ qcs qps qbks _ HQN.out oQ.reads.p.c oQ.reads.p.p oQ.reads.b).mono ?_;rintro e w4 ⟨vw,msw,rfl,hmw,oww,b⟩;have HMW : Hid (msw.map bareK = msp.map bareK) := bare_of_pv (hmw.trans HMP.out.symm);clear hmw HMP;replace d := bw_call d b;replace hs := hs.below (b.mono y0);replace y0 := Nat.le_trans y0 b.size;replace oS := oS.below b;replace kS := (b.block _ sS).trans kS;replace sS := Nat.lt_of_lt_of_le sS b.size;replace kO := (b.block _ sO).trans kO;replace sO := Nat.lt_of_lt_of_le sO b.size;replace oQ := oQ.below b;replace kQ := (b.block _ sQ).trans kQ;replace sQ := Nat.lt_of_lt_of_le sQ b.size;replace op := op.below b;clear b;obtain ⟨owo,owc,rfl⟩ := own_slice oww.row
  go_wp2_with fail
  refine (likePlains_same _ _ msp msw _ HMW.out op.reads oww.reads).mono ?_;rintro e w5 ⟨rfl,b⟩;clear oww;replace d := bw_call d b;replace hs := hs.below (b.mono y0);replace y0 := Nat.le_trans y0 b.size;replace oS := oS.below b;replace kS := (b.block _ sS).trans kS;replace sS := Nat.lt_of_lt_of_le sS b.size;replace kO := (b.block _ sO).trans kO;replace sO := Nat.lt_of_lt_of_le sO b.size;replace oQ := oQ.below b;replace kQ := (b.block _ sQ).trans kQ;replace sQ := Nat.lt_of_lt_of_le sQ b.size;replace op := op.below b;clear b;clear op;clear oQ;clear kQ sQ;clear HMW HQN HQF
  obtain ⟨okv,hok⟩ : ∃ x,shelfOk ⟨cs,ps,bks.map Bk.pb⟩ = x := ⟨_,rfl⟩
  have HOK : Hid (shelfOk ⟨cs,ps,bks.map Bk.pb⟩ = okv) := hok;clear hok;obtain ⟨pkS0,pkS1,pkS2⟩ := c3 kS
  go_wp2_with fail
  clear pkS0 pkS1 pkS2;refine (specShelfOk_any _ _ _ cs ps bks _ HN.out oS.reads.p.c oS.reads.p.p oS.reads.b).mono ?_;rw [HOK.out];rintro e w6 ⟨rfl,b⟩;replace d := bw_call d b;replace hs := hs.below (b.mono y0);replace y0 := Nat.le_trans y0 b.size;replace oS := oS.below b;replace kS := (b.block _ sS).trans kS;replace sS := Nat.lt_of_lt_of_le sS b.size;replace kO := (b.block _ sO).trans kO;replace sO := Nat.lt_of_lt_of_le sO b.size;clear b;cases okv
  · have pS0 := at_cell kS 0
    have pS1 := at_cell kS 1;have pS2 := at_cell kS 2
    go_wp2_with fail
    refine (implShownNone_any _ _ _ cs ps bks _ HN.out HF.out oS.reads (.inl HOK.out)).mono ?_;rintro e w7 ⟨oz,cz,rfl,b3⟩
    go_wp2_with fail
    go_ret;exact ⟨rfl,bw_call d b3⟩
  have hnm := HO.out.1.1;have hot := HO.out.1.2
  obtain ⟨⟨⟨dcs,dps,dbs⟩,rc,rv⟩,hD⟩ : ∃ x,didOp ⟨cs,ps,bks.map Bk.pb⟩ ⟨k,nm,ot,at_,va,ep⟩ = x := ⟨_,rfl⟩
  have HD : Hid (didOp ⟨cs,ps,bks.map Bk.pb⟩ ⟨k,nm,ot,at_,va,ep⟩ = (⟨dcs,dps,dbs⟩,(rc,rv))) := hD
  obtain ⟨D2,hD2⟩ : ∃ x,shownPlain ⟨dcs,dps,dbs⟩ = x := ⟨_,rfl⟩
  have HD2 : Hid (didPlain (shownPlain ⟨cs,ps,bks.map Bk.pb⟩) ⟨k,nm,ot,at_,va,ep⟩ rc = (D2,(rc,rv))) := by
    have h := as_told HOK.out ⟨k,nm,ot,at_,va,ep⟩;rw [hD] at h;rw [Hid,<- hD2];exact h
  have HPO : Hid (plainsOk D2 = true) := by
    have h := did_plains (shownPlain ⟨cs,ps,bks.map Bk.pb⟩) ⟨k,nm,ot,at_,va,ep⟩ rc;rw [HD2.out] at h;exact h
  have HSH : Hid (shownPlain ⟨dcs,dps,dbs⟩ = D2) := hD2;clear hD hD2;obtain ⟨pkS0,pkS1,pkS2⟩ := c3 kS;obtain ⟨pkO0,pkO1,pkO2,pkO3,pkO4,pkO5⟩ := c6 kO
  go_wp2_with fail
  clear pkS0 pkS1 pkS2;clear pkO0 pkO1 pkO2 pkO3 pkO4 pkO5;refine (specDidO_any _ _ _ cs ps bks k nm ot at_ va ep _ HN.out hnm hot oS.reads.p.c oS.reads.p.p oS.reads.b).mono ?_;rw [HD.out];simp only;rintro e w7 ⟨u1,u2,ub,rfl,oX,b⟩;replace d := bw_call d b;replace hs := hs.below (b.mono y0);replace y0 := Nat.le_trans y0 b.size;replace oS := oS.below b;replace kS := (b.block _ sS).trans kS;replace sS := Nat.lt_of_lt_of_le sS b.size;replace kO := (b.block _ sO).trans kO;replace sO := Nat.lt_of_lt_of_le sO b.size;clear b;obtain ⟨xs,oXb,hmX⟩ := oX.b;have HXB : Hid (∀ y ∈ xs,BkFit y) := did_fits (by rw [HD.out];exact hmX);have oXp := oX.p;simp only at hmX oXp;clear oX;subst hmX;obtain ⟨x1,e1,x2,e2,rfl,rfl⟩ := oXp.forms;obtain ⟨xb,eb,rfl⟩ := own_slice oXb.row
  have oW : OwnW w6.heap.size w7 _ _ _ dcs dps xs := ⟨oXp,oXb⟩
  clear oXp oXb;obtain ⟨WB,hWB,kX,kR,b,zWB⟩ := box2 w7 #[.slice x1 dcs.length e1,.slice x2 dps.length e2,.slice xb xs.length eb] #[.int .i64 rc,.int .i64 rv] 42 30;have sX : w7.heap.size < WB.heap.size := by omega
  have sR : w7.heap.size + 1 < WB.heap.size := by omega
  have HWB : Hid (WB = _) := hWB;clear hWB zWB;replace d := bw_call d b;replace hs := hs.below (b.mono y0);replace y0 := Nat.le_trans y0 b.size;replace oS := oS.below b;replace kS := (b.block _ sS).trans kS;replace sS := Nat.lt_of_lt_of_le sS b.size;replace kO := (b.block _ sO).trans kO;replace sO := Nat.lt_of_lt_of_le sO b.size;replace oW := oW.below b;clear b
  go_upto_region 11 with fail
  rw [<- HWB.out];clear HWB;generalize w7.heap.size = nX at *
  obtain ⟨R,hR0⟩ : ∃ R : Nat -> Value -> World -> Prop,R = fun j v X => match j with
    | 0 => v = .agg #[.slice o1 cs.length c1,.slice o2 ps.length c2,.slice ob bks.length kb]
    | 1 => ∃ (g cp : Nat) (ts : List Pk),v = .slice (some ⟨g,0,none⟩) ts.length cp /\ ts.map Pk.pv = shownPlain ⟨cs,ps,bks.map Bk.pb⟩ /\ ReadsK X.heap.size X (.slice (some ⟨g,0,none⟩) ts.length cp) ts
    | 2 => v = .agg #[.int .i64 k,.string nm,.string ot,.int .i64 at_,.int .i64 va,.int .i64 ep]
    | 3 => v = .pointer (some ⟨nX + 1,0,none⟩)
    | 4 => v = .int .i64 rc
    | 5 => ∃ ov cv ms,v = .tuple #[.slice ov (List.length ms) cv,.agg #[.int .i64 rc,.int .i64 rv]] /\ ms.map Pk.pv = D2 /\ OwnK WB.heap.size X (.slice ov ms.length cv) ms
    | 6 => ∃ ov cv ms,v = .tuple #[.slice ov (List.length ms) cv,.agg #[.int .i64 rc,.int .i64 rv]] /\ ms.map Pk.pv = D2 /\ OwnK WB.heap.size X (.slice ov ms.length cv) ms
    | 7 => ∃ ov cv ms,v = .slice ov (List.length ms) cv /\ ms.map Pk.pv = D2 /\ OwnK WB.heap.size X (.slice ov ms.length cv) ms
    | 8 => v = .agg #[.int .i64 rc,.int .i64 rv]
    | 9 => ∃ n,v = .pointer (some ⟨n,0,none⟩) /\ WB.heap.size <= n /\ X.heap[n]? = some (.cells #[.int .i64 0,.int .i64 0] 30 (0,0))
    | 10 => ∃ ov cv ms,v = .slice ov (List.length ms) cv /\ ms.map Pk.pv = D2 /\ OwnK WB.heap.size X (.slice ov ms.length cv) ms
    | _ => True := ⟨_,rfl⟩
  have hR : Hid _ := hR0;clear hR0
  have RMO : ∀ x x',Below x.heap.size x x' -> ∀ j v,R j v x -> R j v x' := fun x x' hb j v => by
    rw [hR.out]
    match j with
    | 0 => exact id
    | 1 => exact fun ⟨g,cp,ts,e,hp,r⟩ => ⟨g,cp,ts,e,hp,(r.below hb).mono hb.size⟩
    | 2 => exact id
    | 3 => exact id
    | 4 => exact id
    | 5 => exact fun ⟨ov,cv,ms,e,hm,ow⟩ => ⟨ov,cv,ms,e,hm,ow.below hb⟩
    | 6 => exact fun ⟨ov,cv,ms,e,hm,ow⟩ => ⟨ov,cv,ms,e,hm,ow.below hb⟩
    | 7 => exact fun ⟨ov,cv,ms,e,hm,ow⟩ => ⟨ov,cv,ms,e,hm,ow.below hb⟩
    | 8 => exact id
    | 9 => exact fun ⟨n,e,hw,kk⟩ => ⟨n,e,hw,(hb.block _ (heap_lt kk)).trans kk⟩
    | 10 => exact fun ⟨ov,cv,ms,e,hm,ow⟩ => ⟨ov,cv,ms,e,hm,ow.below hb⟩
    | 11 => exact id
    | _ + 12 => exact id
  go_cut [9,10] (fun v9 v10 wx => ∃ (n : Nat) (ov : Option Addr) (cv : Nat) (ms : List Pk),v9 = .slice ov ms.length cv /\ v10 = .pointer (some ⟨n,0,none⟩) /\ wx.heap[n]? = some (.cells #[.int .i64 rc,.int .i64 rv] 30 (0,0)) /\ ms.map Pk.pv = D2 /\ OwnK WB.heap.size wx (.slice ov ms.length cv) ms /\ Below WB.heap.size WB wx /\ WB.heap.size <= n)
  case first =>
    refine wp_region_inv (I := RXs _ 11 10 48 R _ WB) (by kernel_rfl) (RXs.start _ 11 10 48 _ _ WB) ?_ ?_
    · intro L a x i hL hD hi h
      obtain ⟨X,h⟩ := h;have hin : i < 12 := (ready_mem hi).1;have hnot := (ready_mem hi).2.1;have hc : i = 0 \/ i = 1 \/ i = 2 \/ i = 3 \/ i = 4 \/ i = 5 \/ i = 6 \/ i = 7 \/ i = 8 \/ i = 9 \/ i = 10 \/ i = 11 := by omega
      rcases hc with rfl | rfl | rfl | rfl | rfl | rfl | rfl | rfl | rfl | rfl | rfl | rfl
      · have hn : L.getD 11 false = false := hD.no 11 [8,6,5,1,0] hnot (by kernel_rfl) rfl
        obtain rfl := h.pre hn;refine wpOp_of rfl rfl ?_;refine op_load 42 3 rfl nS (h.old 3 (by kernel_rfl)) _ 42 (0,0) ((h.bel.block _ (heap_lt kS)).trans kS) _ Tryz.underlying42 rfl (by kernel_rfl) ?_;exact h.val 0 41 _ x (by decide) (by kernel_rfl) (of_decide_eq_true (by kernel_rfl)) (by kernel_rfl) (by kernel_rfl) hn (Below.refl _ _) (by rw [hR.out];exact rfl) (fun _ _ q => q)
      · have hn : L.getD 11 false = false := hD.no 11 [8,6,5,1] hnot (by kernel_rfl) rfl
        obtain rfl := h.pre hn;have q := h.rel 0 41 (ready_dep hi (by kernel_rfl)) (by kernel_rfl);rw [hR.out] at q;have q' : a.tmps.getD 41 undef = .agg #[.slice o1 cs.length c1,.slice o2 ps.length c2,.slice ob bks.length kb] := q;clear q;refine wpOp_of rfl rfl ?_;unfold Oper.wp
        go_simp
        go_at_call 19
        refine (implShownPlainV_any w'.heap.size _ _ _ cs ps bks _ HN.out HF.out (oS.below h.bel)).mono ?_;rintro e x1 ⟨gp,cp',msp,rfl,hmp,op,-,hb⟩;have HMP : Hid _ := hmp;clear hmp;exact h.val 1 42 _ x1 (by decide) (by kernel_rfl) (of_decide_eq_true (by kernel_rfl)) (by kernel_rfl) (by kernel_rfl) hn hb (by rw [hR.out];exact ⟨gp,cp',msp,rfl,HMP.out,op.reads⟩) (RMO _ _ hb)
      · have hn : L.getD 11 false = false := hD.no 11 [8,6,5,2] hnot (by kernel_rfl) rfl
        obtain rfl := h.pre hn;refine wpOp_of rfl rfl ?_;refine op_load 26 4 rfl (nS + 1) (h.old 4 (by kernel_rfl)) _ 26 (0,0) ((h.bel.block _ (heap_lt kO)).trans kO) _ Tryz.underlying26 rfl (by kernel_rfl) ?_;exact h.val 2 43 _ x (by decide) (by kernel_rfl) (of_decide_eq_true (by kernel_rfl)) (by kernel_rfl) (by kernel_rfl) hn (Below.refl _ _) (by rw [hR.out];exact rfl) (fun _ _ q => q)
      · have t8 : a.tmps.getD 8 undef = .pointer (some ⟨nX + 1,0,none⟩) := h.old 8 (by kernel_rfl)
        refine wpOp_of rfl rfl ?_;unfold Oper.wp
        go_simp
        exact h.put 3 44 _ (by decide) (by kernel_rfl) (of_decide_eq_true (by kernel_rfl)) (by kernel_rfl) (by kernel_rfl) (by decide) (by decide) (by rw [hR.out];exact rfl)
      · have hn : L.getD 11 false = false := hD.no 11 [8,6,5,4] hnot (by kernel_rfl) rfl
        obtain rfl := h.pre hn;have q := h.rel 3 44 (ready_dep hi (by kernel_rfl)) (by kernel_rfl);rw [hR.out] at q;have q' : a.tmps.getD 44 undef = .pointer (some ⟨nX + 1,0,none⟩) := q;clear q;have cR := at_cell ((h.bel.block _ (heap_lt kR)).trans kR) 0;refine wpOp_of rfl rfl ?_;unfold Oper.wp
        go_simp
        exact h.val 4 45 _ x (by decide) (by kernel_rfl) (of_decide_eq_true (by kernel_rfl)) (by kernel_rfl) (by kernel_rfl) hn (Below.refl _ _) (by rw [hR.out];exact rfl) (fun _ _ q => q)
      · have hn : L.getD 11 false = false := hD.no 11 [8,6,5] hnot (by kernel_rfl) rfl
        obtain rfl := h.pre hn;have q := h.rel 1 42 (ready_dep hi (by kernel_rfl)) (by kernel_rfl);rw [hR.out] at q;obtain ⟨g,cp,ts,e1,hpt,rt⟩ := q;have HPT : Hid _ := hpt;clear hpt;have q3 := h.rel 2 43 (ready_dep hi (by kernel_rfl)) (by kernel_rfl);rw [hR.out] at q3;have q3' : a.tmps.getD 43 undef = .agg #[.int .i64 k,.string nm,.string ot,.int .i64 at_,.int .i64 va,.int .i64 ep] := q3;clear q3;have q4 := h.rel 4 45 (ready_dep hi (by kernel_rfl)) (by kernel_rfl);rw [hR.out] at q4;have q4' : a.tmps.getD 45 undef = .int .i64 rc := q4;clear q4;refine wpOp_of rfl rfl ?_;unfold Oper.wp
        go_simp
        go_at_call 9
        refine (implDidPlain_any _ ts k nm ot at_ va ep rc _ ad (HV.out.below (bw_call d h.bel)) (shown_names HPT.out) HO.out.1.1 HO.out.1.2 HO.out.2.1 HO.out.2.2.1 HO.out.2.2.2.1 HO.out.2.2.2.2 rt).mono ?_;unfold DidKP;rw [HPT.out,HD2.out];rintro e x1 ⟨vd,md,rfl,hmd,od,apd,hb⟩;obtain ⟨ov,cv,rfl⟩ := own_slice od.row;have HMD : Hid _ := hmd;clear hmd;exact h.val 5 46 _ x1 (by decide) (by kernel_rfl) (of_decide_eq_true (by kernel_rfl)) (by kernel_rfl) (by kernel_rfl) hn hb (by rw [hR.out];exact ⟨ov,cv,md,rfl,HMD.out,od.mono h.bel.size⟩) (RMO _ _ hb)
      · have q := h.rel 5 46 (ready_dep hi (by kernel_rfl)) (by kernel_rfl)
        rw [hR.out] at q;refine wpOp_of rfl rfl (op_move 46 rfl ?_);exact h.put 6 40 _ (by decide) (by kernel_rfl) (of_decide_eq_true (by kernel_rfl)) (by kernel_rfl) (by kernel_rfl) (by decide) (by decide) (by rw [hR.out];exact q)
      · have q := h.rel 6 40 (ready_dep hi (by kernel_rfl)) (by kernel_rfl)
        rw [hR.out] at q;obtain ⟨ov,cv,ms,e28,hmm,ow⟩ := q;have HMM : Hid _ := And.intro hmm ow;clear hmm ow;refine wpOp_of rfl rfl ?_;unfold Oper.wp
        go_simp
        exact h.put 7 47 _ (by decide) (by kernel_rfl) (of_decide_eq_true (by kernel_rfl)) (by kernel_rfl) (by kernel_rfl) (by decide) (by decide) (by rw [hR.out];exact ⟨ov,cv,ms,rfl,HMM.out⟩)
      · have hn : L.getD 11 false = false := hD.no 11 [8] hnot (by kernel_rfl) rfl
        obtain rfl := h.pre hn;have q := h.rel 6 40 (ready_dep hi (by kernel_rfl)) (by kernel_rfl);rw [hR.out] at q;obtain ⟨ov,cv,ms,e28,hmm,ow⟩ := q;clear hmm ow;refine wpOp_of rfl rfl ?_;unfold Oper.wp
        go_simp
        exact h.val 8 48 _ x (by decide) (by kernel_rfl) (of_decide_eq_true (by kernel_rfl)) (by kernel_rfl) (by kernel_rfl) hn (Below.refl _ _) (by rw [hR.out];exact rfl) (fun _ _ q => q)
      · have hn : L.getD 11 false = false := hD.no 11 [9] hnot (by kernel_rfl) rfl
        obtain rfl := h.pre hn;refine wpOp_of rfl rfl ?_;unfold Oper.wp
        go_simp
        have hb : Below x.heap.size x (x.alloc (.cells #[.int .i64 0,.int .i64 0] 30)) := bw_alloc (Below.refl _ _);exact h.val 9 10 _ _ (by decide) (by kernel_rfl) (of_decide_eq_true (by kernel_rfl)) (by kernel_rfl) (by kernel_rfl) hn hb (by rw [hR.out];exact ⟨_,rfl,h.bel.size,heap_alloc_new _ _⟩) (RMO _ _ hb)
      · have q := h.rel 7 47 (ready_dep hi (by kernel_rfl)) (by kernel_rfl)
        rw [hR.out] at q;refine wpOp_of rfl rfl (op_assign 47 rfl ?_);exact h.put 10 9 _ (by decide) (by kernel_rfl) (of_decide_eq_true (by kernel_rfl)) (by kernel_rfl) (by kernel_rfl) (by decide) (by decide) (by rw [hR.out];exact q)
      · have hn := not_done hnot
        obtain rfl := h.pre hn;have q0 := h.rel 9 10 (ready_dep hi (by kernel_rfl)) (by kernel_rfl);rw [hR.out] at q0;have q1 := h.rel 8 48 (ready_dep hi (by kernel_rfl)) (by kernel_rfl);rw [hR.out] at q1;obtain ⟨n,eB,hwn,kB⟩ := q0
        obtain ⟨zs,hzs⟩ : ∃ zs : Array Value,zs = #[.int .i64 rc,.int .i64 rv] := ⟨_,rfl⟩
        rw [<- hzs] at q1;have eV : a.tmps.getD 48 undef = .agg zs := q1;have hz1 : (Tryz.prog.info? 30).map (·.size) = some zs.size := by rw [hzs];kernel_rfl
        have hz2 : (#[.int .i64 0,.int .i64 0] : Array Value).size = zs.size := by rw [hzs];rfl
        have hz3 : zs.all (·.oneCell') = true := by rw [hzs];simp [Value.oneCell']
        refine wpOp_of rfl rfl (op_store 30 10 48 rfl rfl n eB zs eV #[.int .i64 0,.int .i64 0] 30 kB hz1 hz2 hz3 ?_);exact h.store (by rw [hL];exact of_decide_eq_true (by kernel_rfl)) hn (by kernel_rfl) eB eV
    · intro L a x hL hD hr h
      obtain ⟨X,h⟩ := h;have hall := all_done hL hr (by kernel_rfl);obtain ⟨n,zs,eB,eV,rfl⟩ := h.fin (hall 11 (of_decide_eq_true (by kernel_rfl)));have qB := h.rel 9 10 (hall 9 (of_decide_eq_true (by kernel_rfl))) (by kernel_rfl);rw [hR.out] at qB;have qV := h.rel 8 48 (hall 8 (of_decide_eq_true (by kernel_rfl))) (by kernel_rfl);rw [hR.out] at qV;have qL := h.rel 10 9 (hall 10 (of_decide_eq_true (by kernel_rfl))) (by kernel_rfl);rw [hR.out] at qL;obtain ⟨n',eB',hwn,kB⟩ := qB;obtain ⟨ov,cv,ms,eL,hmm,ow⟩ := qL;have en : (Value.pointer (some ⟨n,0,none⟩)) = .pointer (some ⟨n',0,none⟩) := eB.symm.trans eB';have ez : Value.agg zs = .agg #[.int .i64 rc,.int .i64 rv] := eV.symm.trans qV;simp only [Value.pointer.injEq,Option.some.injEq,Addr.mk.injEq,and_true] at en;simp only [Value.agg.injEq] at ez;subst en ez
      obtain ⟨w9,hw9⟩ : ∃ z,z = Value.slice ov ms.length cv := ⟨_,rfl⟩
      obtain ⟨w10,hw10⟩ : ∃ z,z = Value.pointer (some ⟨n,0,none⟩) := ⟨_,rfl⟩
      have ew9 : a.tmps.getD 9 undef = w9 := by rw [hw9];exact eL
      have ew10 : a.tmps.getD 10 undef = w10 := by rw [hw10];exact eB
      have HEND : Hid (∃ (n0 : Nat) (ov : Option Addr) (cv : Nat) (ms : List Pk),w9 = .slice ov ms.length cv /\ w10 = .pointer (some ⟨n0,0,none⟩) /\ (X.setRow n #[.int .i64 rc,.int .i64 rv]).heap[n0]? = some (.cells #[.int .i64 rc,.int .i64 rv] 30 (0,0)) /\ ms.map Pk.pv = D2 /\ OwnK WB.heap.size (X.setRow n #[.int .i64 rc,.int .i64 rv]) (.slice ov ms.length cv) ms /\ Below WB.heap.size WB (X.setRow n #[.int .i64 rc,.int .i64 rv]) /\ WB.heap.size <= n0) :=
        ⟨n,ov,cv,ms,hw9,hw10,setRow_row kB,hmm,ow.box kB (by decide) (by decide) row_upto,h.bel.trans (row_upto.toBelow h.bel.size hwn),hwn⟩
      clear qV eL eB' hmm ow kB hw9 hw10;have hfr := h.frame [9,10,40,41,42,43,44,45,46,47,48] (by kernel_rfl)
      obtain ⟨f,hf⟩ : ∃ f : Nat -> Value,(fun s => a.tmps.getD s undef) = f := ⟨_,rfl⟩
      rw [hf] at hfr;have f9 : f 9 = w9 := by rw [<- hf];exact ew9
      have f10 : f 10 = w10 := by rw [<- hf];exact ew10
      clear hf h hall hr hD hL eB eV ew9 ew10;subst hfr;simp only [Act.puts,f9,f10,Act.put,List.setIfInBounds_toArray,List.set_cons_succ,List.set_cons_zero];generalize f 40 = ux40;generalize f 41 = ux41;generalize f 42 = ux42;generalize f 43 = ux43;generalize f 44 = ux44;generalize f 45 = ux45;generalize f 46 = ux46;generalize f 47 = ux47;generalize f 48 = ux48;clear f9 f10 f
      show Exit.then _ _ _ _ _
      go_wp2_with fail
      go_meet
      exact HEND.out
  case rest =>
    obtain ⟨nT,oyo,oyc,msy,rfl,rfl,kT,hmy,oy,b,hnT⟩ := hcut
    rename World => W8
    have HMY : Hid (msy.map Pk.pv = D2) := hmy;replace d := bw_call d b;replace hs := hs.below (b.mono y0);replace y0 := Nat.le_trans y0 b.size;replace oS := oS.below b;replace kS := (b.block _ sS).trans kS;replace sS := Nat.lt_of_lt_of_le sS b.size;replace kO := (b.block _ sO).trans kO;replace sO := Nat.lt_of_lt_of_le sO b.size;replace oW := oW.below b;replace kX := (b.block _ sX).trans kX;replace sX := Nat.lt_of_lt_of_le sX b.size;replace kR := (b.block _ sR).trans kR;replace sR := Nat.lt_of_lt_of_le sR b.size;clear b;have sT := heap_lt kT;clear hmy hR RMO R;have HXN : Hid (∀ b ∈ xs,b.nm.size <= maxLen) := fun b hb => (HXB.out b hb).nl
    have HXF : Hid (∀ b ∈ xs,FitRuns b.rs) := fun b hb => (HXB.out b hb).fit
    have hself : ∀ z : Int,(z == z) = true := fun z => by simp
    have pkR0 := at_cell kR 0;have pkR1 := at_cell kR 1;have pkT0 := at_cell kT 0;have pkT1 := at_cell kT 1;obtain ⟨pkX0,pkX1,pkX2⟩ := c3 kX
    go_wp2_with fail
    clear pkR0 pkR1;clear pkT0 pkT1;clear pkX0 pkX1 pkX2;refine (implShownPlainW_any _ _ _ _ dcs dps xs _ HXN.out HXF.out oW).mono ?_;rintro e w9 ⟨gx,cx,msx,rfl,hmx,ox,-,b⟩;have HMX : Hid (msy.map bareK = msx.map bareK) := bare_of_pv (HMY.out.trans (hmx.trans HSH.out).symm);clear hmx;replace d := bw_call d b;replace hs := hs.below (b.mono y0);replace y0 := Nat.le_trans y0 b.size;replace oS := oS.below b;replace kS := (b.block _ sS).trans kS;replace sS := Nat.lt_of_lt_of_le sS b.size;replace kO := (b.block _ sO).trans kO;replace sO := Nat.lt_of_lt_of_le sO b.size;replace oW := oW.below b;replace kX := (b.block _ sX).trans kX;replace sX := Nat.lt_of_lt_of_le sX b.size;replace kR := (b.block _ sR).trans kR;replace sR := Nat.lt_of_lt_of_le sR b.size;replace kT := (b.block _ sT).trans kT;replace sT := Nat.lt_of_lt_of_le sT b.size;replace oy := oy.below b;clear b
    go_wp2_with fail
    refine (likePlains_same _ _ msx msy _ HMX.out ox.reads oy.reads).mono ?_;rintro e w10 ⟨rfl,b⟩;clear ox;replace d := bw_call d b;replace hs := hs.below (b.mono y0);replace y0 := Nat.le_trans y0 b.size;replace oS := oS.below b;replace kS := (b.block _ sS).trans kS;replace sS := Nat.lt_of_lt_of_le sS b.size;replace kO := (b.block _ sO).trans kO;replace sO := Nat.lt_of_lt_of_le sO b.size;replace oW := oW.below b;replace kX := (b.block _ sX).trans kX;replace sX := Nat.lt_of_lt_of_le sX b.size;replace kR := (b.block _ sR).trans kR;replace sR := Nat.lt_of_lt_of_le sR b.size;replace kT := (b.block _ sT).trans kT;replace sT := Nat.lt_of_lt_of_le sT b.size;replace oy := oy.below b;clear b;have HYN : Hid (∀ b ∈ msy,b.nm.size <= maxLen) := right_names (by rw [HMY.out];exact HPO.out)
    go_wp2_with fail
    refine (implPlainsOk_any _ msy _ HYN.out oy.reads).mono ?_;rw [HMY.out,HPO.out];rintro e w11 ⟨rfl,b⟩;replace d := bw_call d b;replace hs := hs.below (b.mono y0);replace y0 := Nat.le_trans y0 b.size;replace oS := oS.below b;replace kS := (b.block _ sS).trans kS;replace sS := Nat.lt_of_lt_of_le sS b.size;replace kO := (b.block _ sO).trans kO;replace sO := Nat.lt_of_lt_of_le sO b.size;replace oW := oW.below b;replace kX := (b.block _ sX).trans kX;replace sX := Nat.lt_of_lt_of_le sX b.size;replace kR := (b.block _ sR).trans kR;replace sR := Nat.lt_of_lt_of_le sR b.size;replace kT := (b.block _ sT).trans kT;replace sT := Nat.lt_of_lt_of_le sT b.size;replace oy := oy.below b;clear b
    go_wp2_with fail
    go_ret;exact ⟨rfl,d⟩
set_option maxRecDepth 100000 in
theorem lifted (os : Os) (started : os.Started) (H : Type) (enc : TypeId × Value -> H) :
    ReturnsInHanded {} Tryz.checked os 4 .any (fun w args => (Rows.fnAsPlainSpec.pre enc Tryz.prog Tryz.f4 Rows.fnAsPlainRow.domain false w args /\ laidMetH Tryz.prog Rows.fnAsPlainRow.laid w) /\ sizedMet enc Tryz.prog Tryz.f4 (OpenSpec.ofChange Rows.fnAsPlainSpec) false w args) (Rows.fnAsPlainSpec.post enc Tryz.prog Tryz.f4 false true false false) := by
  refine returnsInHanded_of_change_and (C := Tryz.checked) (X := fun w _ => laidMetH Tryz.prog Rows.fnAsPlainRow.laid w) (fun _ _ _ hh h => h.of_heap hh) own started (by kernel_rfl) Tryz.func4
    (ChangeSpec.witness_at (enc := enc) (C := Tryz.checked) (os := os) (X := fun w _ => laidMetH Tryz.prog Rows.fnAsPlainRow.laid w) false (laidWorld os) #[.slice none 0 0] 8 rfl (by kernel_rfl) (by kernel_rfl) (by kernel_rfl) (by kernel_rfl) (by kernel_rfl) (show laidMetH Tryz.prog laidLess _ from laid_nine os _)) ?_
  intro W base args ds gs before hval0 hW _ _ hL _;have hval : ∀ (j : Nat) t v,Tryz.f4.params[j]? = some t -> args[j]? = some v -> Value.okWide Tryz.prog W .any base t v := hval0;have hW' := hW;obtain ⟨p,q,hA0,hV,rfl,hfz,hnd⟩ := hW;have hA : DataW.TrodAll enc Tryz.prog W 0 (fun _ => true) true Tryz.f4.params.toList args.toList ds p := hA0;have hVN : DataW.TrodVars enc Tryz.prog W (fun _ => true) ["loop.example/g00372/impl.errNoPage","loop.example/g00372/impl.errWrongOp","loop.example/g00372/impl.errNoBook","loop.example/g00372/impl.errBookThere","loop.example/g00372/impl.errFenced","loop.example/g00372/impl.errFixed","loop.example/g00372/impl.errRange","loop.example/g00372/impl.errManyBooks","loop.example/g00372/impl.errWorn"] gs q := hV;have hvl := vars_length hVN;rw [Tryz.params4] at hA hval;obtain ⟨v0,vs0,d0,ds0,p0,q0,hargs,rfl,rfl,h0,rr0⟩ := trodAll_cons hA;obtain ⟨rfl,rfl,rfl⟩ := trodAll_nil rr0;obtain rfl : args = #[v0] := by cases args;simp_all
  have kk0 := h0;have lt0 : ∀ x ∈ p0,x.block < W.heap.size := by obtain ⟨fuel,hfuel⟩ := kk0;exact DataW.trod_lt fuel _ _ _ hfuel
  obtain ⟨a0,len0,cap0,rfl,w0⟩ := open_bytes (hval 0 22 v0 rfl rfl) h0;clear hA0 hval0;refine (walk a0 len0 cap0 W w0 (adOf W) (vars_nine (show laidMetH Tryz.prog laidLess W from hL))).mono fun e W' ⟨he,bel⟩ => ?_
  subst he
  match gs,hvl,hVN with
  | [g1,g2,g3,g4,g5,g6,g7,g8,g9],_,hVN =>
    exact ⟨_,rfl,_,_,_,[],_,q,hW',trodAll_mk1 (shut_bool Tryz.underlying4 _),(trodAll_cons_mk (Below.trod laidOut (by kernel_rfl) (of_decide_eq_true (by kernel_rfl)) kk0 bel lt0) trodAll_mk0),Below.trodVars laidOut bel (by kernel_rfl) hVN,bel.frame _,fun h => by cases h⟩
theorem over : Rows.fnAsPlainRow.holds Tryz.pinned (OpenSpec.ofChange Rows.fnAsPlainSpec) :=
  OpenClaim.holds_of_wide 4 Tryz.f4 rfl rfl rfl rfl rfl rfl rfl ⟨rfl,rfl,rfl,rfl,rfl⟩ rfl rfl rfl rfl rfl hfn Tryz.func4 closed hinst hwrap
    (fun os started H enc _ => lifted os started H enc)
theorem proved : Rows.FnAsPlainCardSaid :=
  Claim7.holds_tied_plain_at .later [] [.handle,.sentinel,.sentinel,.sentinel,.sentinel,.sentinel,.sentinel,.sentinel,.sentinel,.sentinel] true (true,"c1202ad587a82d4a6b2824aa68a774fbcede363e1cfa9649eab5822d3dd22308") true over (fun _ h => by cases h) byText (fun _ h => by cases h) fnAsPlain_row_tie rfl ⟨rfl,rfl⟩ mainIs rfl
    (fun f fn hf hfn' => by
      obtain rfl : f = 4 := (Option.some.inj (hfn.symm.trans hf)).symm;obtain rfl : fn = Tryz.f4 := (Option.some.inj (Tryz.func4.symm.trans hfn')).symm
      exact ⟨looks,fun j t ht => by
        rw [Tryz.params4] at ht;have hm : t ∈ [22] := by have h := Array.mem_of_getElem? ht;simpa using h
        simp only [List.mem_cons,List.mem_nil_iff,or_false] at hm;rcases hm with rfl
        · exact stand22⟩)
    goes
#print axioms proved
end Go.Proofs.YtcefcglonooelaaGreatDoor.fnAsPlain
