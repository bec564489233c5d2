import Derived.Deep.RegionHeld3
import Derived.Test.YtfkkapdofjhgpaaGreatDoorM02
import Derived.Test.YtfkkapdofjhgpaaGreatDoorM03
import Derived.Test.YtfkkapdofjhgpaaGreatDoorM05
import Derived.Test.YtfkkapdofjhgpaaGreatDoorM08
import Derived.Test.YtfkkapdofjhgpaaGreatDoorM11
import Derived.Test.YtfkkapdofjhgpaaGreatDoorM12
import Derived.Test.YtfkkapdofjhgpaaGreatDoorM17
import Derived.Test.YtfkkapdofjhgpaaGreatDoorM18
import Derived.Test.YtfkkapdofjhgpaaGreatDoorM21
set_option maxHeartbeats 12800000
namespace Go.Proofs.YtfkkapdofjhgpaaGreatDoor
open Go.RowKit
set_option linter.unusedVariables false
set_option maxRecDepth 100000
theorem zkb (sq cl tg k : Int) (nm ot : ByteArray) (at_ va ep : Int) (w : World) (hn : nm.size<=maxLen) (ho : ot.size<=maxLen) :
    Calls Tryz.prog 129 #[.agg #[.int .i64 sq,.int .i64 cl,.int .i64 tg,.int .i64 k,.string nm,.string ot,.int .i64 at_,.int .i64 va,.int .i64 ep]] w fun e w'=>e = .returned (.bool (zfc ⟨sq,cl,tg,⟨k,nm,ot,at_,va,ep⟩⟩))/\Below w.heap.size w w':=by
  obtain ⟨W0,hW0,k0,d0,z0⟩:=zb4 w #[.int .i64 sq,.int .i64 cl,.int .i64 tg,.int .i64 k,.string nm,.string ot,.int .i64 at_,.int .i64 va,.int .i64 ep] 39;have HW0 : Hid (W0 = _):=hW0;obtain ⟨p0,p1,p2,p3,p4,p5,p6,p7,p8⟩:=cq9 k0;have HB : Hid (zfc ⟨sq,cl,tg,⟨k,nm,ot,at_,va,ep⟩⟩=((decide (1<=sq) && decide (sq<=1000)) && (decide (1<=tg) && decide (tg<=1000)) && (decide (0<=cl) && decide (cl<=3)) && zdt ⟨k,nm,ot,at_,va,ep⟩)):=rfl;clear hW0 z0 k0
  go_enter Tryz.func129,Tryz.ntmps129
  go_wp2_with fail
  rw [<- HW0.out];clear HW0;refine (zb3 sq 1 1000 _).mono ?_;rintro e w' ⟨rfl,rfl⟩;generalize (decide (1<=sq) && decide (sq<=1000))=c0 at *;cases c0
  · go_wp2_with fail
    go_ret;exact ⟨za6 (by rw [HB.out];rfl),d0⟩
  go_wp2_with fail
  refine (zb3 tg 1 1000 _).mono ?_;rintro e w' ⟨rfl,rfl⟩;generalize (decide (1<=tg) && decide (tg<=1000))=c1 at *;cases c1
  · go_wp2_with fail
    go_ret;exact ⟨za6 (by rw [HB.out];rfl),d0⟩
  go_wp2_with fail
  refine (zb3 cl 0 3 _).mono ?_;rintro e w' ⟨rfl,rfl⟩;generalize (decide (0<=cl) && decide (cl<=3))=c2 at *;cases c2
  · go_wp2_with fail
    go_ret;exact ⟨za6 (by rw [HB.out];rfl),d0⟩
  go_wp2_with fail
  refine (zk4 k nm ot at_ va ep _ hn ho).mono ?_;rintro e w1 ⟨rfl,b1⟩;replace d0:=za1 d0 b1;generalize zdt ⟨k,nm,ot,at_,va,ep⟩=c3 at *
  go_wp2_with fail
  go_ret;exact ⟨za6 (by rw [HB.out];rfl),d0⟩
theorem zd6 {B : Nat} {w : World} {o : Option Addr} {l : List Ent} (hc : ∀ i x,l[i]? = some x->∃ g off,o=some ⟨g,off,none⟩/\g < B/\∀ j u,(zbs x)[j]? = some u->w.cell? ⟨g,off+i * 9+j,none⟩=some u) (i : Nat) (hi : i < l.length) :
    ∃ g off,o=some ⟨g,off,none⟩/\g < B/\w.cell? ⟨g,off+i * 9,none⟩=some (.int .i64 l[i].sq)/\w.cell? ⟨g,off+i * 9+1,none⟩=some (.int .i64 l[i].cl)/\w.cell? ⟨g,off+i * 9+2,none⟩=some (.int .i64 l[i].tg)/\w.cell? ⟨g,off+i * 9+3,none⟩=some (.int .i64 l[i].o.k)/\w.cell? ⟨g,off+i * 9+4,none⟩=some (.string l[i].o.nm)/\w.cell? ⟨g,off+i * 9+5,none⟩=some (.string l[i].o.ot)/\w.cell? ⟨g,off+i * 9+6,none⟩=some (.int .i64 l[i].o.at_)/\w.cell? ⟨g,off+i * 9+7,none⟩=some (.int .i64 l[i].o.va)/\w.cell? ⟨g,off+i * 9+8,none⟩=some (.int .i64 l[i].o.ep):=by
  obtain ⟨g,off,e,hg,hx⟩:=hc i l[i] (List.getElem?_eq_getElem hi);exact ⟨g,off,e,hg,hx 0 _ rfl,hx 1 _ rfl,hx 2 _ rfl,hx 3 _ rfl,hx 4 _ rfl,hx 5 _ rfl,hx 6 _ rfl,hx 7 _ rfl,hx 8 _ rfl⟩
def zlr (e : Ent) : Prop:=(e.o.nm.size<=maxLen/\e.o.ot.size<=maxLen)/\I64 e.sq/\I64 e.cl/\I64 e.tg/\I64 e.o.k/\I64 e.o.at_/\I64 e.o.va/\I64 e.o.ep
def ze0 (l : List Ent) : Prop:=∀ e ∈ l,zlr e
theorem zpr {l : List Ent} {n : Nat} (h : inOrd 0 tags0 l=n) : logOk l=(decide (l.length<=120) && decide (n=l.length)):=by rw [logOk,h]
theorem zfl (v : Value) (l : List Ent) (w : World) (hf : ze0 l) (r : ReadsR 9 zbs w.heap.size w v l) :
    Calls Tryz.prog 77 #[v] w fun e w'=>e = .returned (.bool (logOk l))/\Below w.heap.size w w':=by
  obtain ⟨o,cap,rfl,hm,hc,-⟩:=r;have HC : Hid _:=zd6 hc;have HF : Hid _:=hf;obtain ⟨M,-,hmk,hown⟩:=zfr 4 (by omega);have e4 : ((4 : Nat) : Int)=4:=rfl;rw [e4] at hmk;have own0:=hown w w.heap.size (Nat.le_refl _);have bd0 : Below w.heap.size w (w.alloc (.cells M 2)):=za3 (Below.refl _ _);unfold maxLen at hm;clear hown hc hf e4
  go_enter Tryz.func77,Tryz.ntmps77
  go_wp2_with fail
  generalize w.alloc (.cells M 2)=W0 at own0 bd0 ⊢;clear hmk
  go_loopw [4] (fun i wr=>∃ (k : Nat) (t : List Int),k<=l.length/\i = .int .i64 k/\t.length=4/\inOrd 0 tags0 l=inOrd k t (l.drop k)/\wr.ownsRow w.heap.size 2 1 (.slice (some ⟨w.heap.size,0,none⟩) 4 4) 4 (t.map (Value.int .i64))/\Below w.heap.size w wr) (fun i _=>l.length - (intOf i).toNat)
  case atStart=>exact ⟨0,tags0,Nat.zero_le _,rfl,rfl,rfl,own0,bd0⟩
  case round =>
    clear own0 bd0;obtain ⟨k,t,hk,rfl,htl,hin,own,hb⟩:=hrel;by_cases hlt : k < l.length
    · obtain ⟨g,off,rfl,hg,a0,a1,a2,a3,a4,a5,a6,a7,a8⟩:=HC.out k hlt
      have hfe:=HF.out l[k] (List.getElem_mem hlt);have HY : Hid (zc5 k t l[k]=true->inOrd 0 tags0 l=inOrd (k+1) (t.set l[k].cl.toNat l[k].tg) (l.drop (k+1))):=fun h=>hin.trans (zj8 hlt h)
      have HN : Hid (zc5 k t l[k]=false->logOk l=false):=fun h=>by rw [zpr (hin.trans (zih hlt h)),decide_eq_false (show ¬ k=l.length by omega),Bool.and_false]
      generalize l[k]=x at a0 a1 a2 a3 a4 a5 a6 a7 a8 hfe HY HN;obtain ⟨sq,cl,tg,⟨k1,nm,ot,at_,va,ep⟩⟩:=x;simp only at a0 a1 a2 a3 a4 a5 a6 a7 a8;obtain ⟨⟨hn,ho⟩,-⟩:=hfe;simp only at hn ho;replace a0:=(hb.cell (p:=⟨g,off+k * 9,none⟩) hg).trans a0;replace a1:=(hb.cell (p:=⟨g,off+k * 9+1,none⟩) hg).trans a1;replace a2:=(hb.cell (p:=⟨g,off+k * 9+2,none⟩) hg).trans a2;replace a3:=(hb.cell (p:=⟨g,off+k * 9+3,none⟩) hg).trans a3;replace a4:=(hb.cell (p:=⟨g,off+k * 9+4,none⟩) hg).trans a4;replace a5:=(hb.cell (p:=⟨g,off+k * 9+5,none⟩) hg).trans a5;replace a6:=(hb.cell (p:=⟨g,off+k * 9+6,none⟩) hg).trans a6;replace a7:=(hb.cell (p:=⟨g,off+k * 9+7,none⟩) hg).trans a7;replace a8:=(hb.cell (p:=⟨g,off+k * 9+8,none⟩) hg).trans a8;obtain ⟨W5,hW5,k5,d5,z5⟩:=zb4 wr #[.int .i64 sq,.int .i64 cl,.int .i64 tg,.int .i64 k1,.string nm,.string ot,.int .i64 at_,.int .i64 va,.int .i64 ep] 39;have HW5 : Hid (W5 = _):=hW5;have HO : Hid (W5.ownsRow w.heap.size 2 1 (.slice (some ⟨w.heap.size,0,none⟩) 4 4) 4 (t.map (Value.int .i64))):=za9 own d5;have hb5:=za1 hb d5;have HS : Hid (zc5 k t ⟨sq,cl,tg,⟨k1,nm,ot,at_,va,ep⟩⟩=(zfc ⟨sq,cl,tg,⟨k1,nm,ot,at_,va,ep⟩⟩ && decide (sq=(k : Int)+1) && decide (t.getD cl.toNat 0 < tg))):=rfl;have s5:=za2 k5;have HIN : Hid _:=hin;clear hW5 own hb d5 HC HF hin z5
      go_wp2_with fail
      rw [<- HW5.out];clear HW5 a0 a1 a2 a3 a4 a5 a6 a7 a8;have hne:=BelowOf.any W5;have q0:=BelowOf.cell (za0 k5 0) s5;have q1:=BelowOf.cell (za0 k5 1) s5;have q2:=BelowOf.cell (za0 k5 2) s5;have q3:=BelowOf.cell (za0 k5 3) s5;have q4:=BelowOf.cell (za0 k5 4) s5;have q5:=BelowOf.cell (za0 k5 5) s5;have q6:=BelowOf.cell (za0 k5 6) s5;have q7:=BelowOf.cell (za0 k5 7) s5;have q8:=BelowOf.cell (za0 k5 8) s5
      obtain ⟨okv,hok⟩ : ∃ x,zfc ⟨sq,cl,tg,⟨k1,nm,ot,at_,va,ep⟩⟩=x:=⟨_,rfl⟩
      have HEQ : ∀ q : BelowOf W5,Calls Tryz.prog 129 #[.agg #[.int .i64 sq,.int .i64 cl,.int .i64 tg,.int .i64 k1,.string nm,.string ot,.int .i64 at_,.int .i64 va,.int .i64 ep]] q.w' fun e w'=>e = .returned (.bool okv)/\Below q.w'.heap.size q.w' w':=fun q=>by have h:=zkb sq cl tg k1 nm ot at_ va ep q.w' hn ho;rwa [hok] at h
      have HOK : Hid (zfc ⟨sq,cl,tg,⟨k1,nm,ot,at_,va,ep⟩⟩=okv):=hok;have hw1 : IntKind.i64.wrap ((k : Int)+1)=(k : Int)+1:=by rw [IntKind.wrap_i64];omega
      clear hok;cases okv
      · have HX : Hid (zc5 k t ⟨sq,cl,tg,⟨k1,nm,ot,at_,va,ep⟩⟩=false):=by rw [Hid,HS.out,HOK.out];rfl
        refine zad (by kernel_rfl) (by kernel_rfl) ?_
        repeat (go_big_quiet_step ((first | (go_at_call 129;exact zb1 (HEQ _)) | rfl)))
        refine wpQuiet_nil ?_;intro w6 hw6;obtain ⟨⟨wx,cx⟩,hwx⟩:=hw6;have b6 : Below W5.heap.size W5 w6:=by rw [hwx];exact cx
        have hb6:=za1 hb5 b6;clear hwx cx wx hne q0 q1 q2 q3 q4 q5 q6 q7 q8 HEQ
        go_wp2_with fail
        go_ret;exact ⟨za6 (HN.out HX.out).symm,hb6⟩
      have hbd:=zgy HOK.out;simp only at hbd;obtain ⟨C,rfl⟩:=Int.eq_ofNat_of_zero_le hbd.2.2.1.1;have hC : C < 4:=by omega
      clear hbd;by_cases hsq : sq=(k : Int)+1
      · have hj1 : (sq != (k : Int)+1)=false:=by rw [hsq];simp
        have HSQ : Hid (sq=(k : Int)+1):=hsq;clear hsq;have t0:=HO.out.cellAt C (by omega);rw [List.getElem?_map,List.getElem?_eq_getElem (show C < t.length by omega)] at t0;simp only [Option.map_some] at t0;have HG : Hid (t.getD C 0=t[C]):=by simp [Hid,List.getD,show C < t.length by omega]
        have qt:=BelowOf.cell t0 (HO.out.lt _ rfl).2;have i0 : (0 : Int)<=(C : Int):=by omega
        have i1 : (C : Int) < 4:=by omega
        generalize t[C]=y at t0 qt HG;by_cases hty : tg<=y
        · have HX : Hid (zc5 k t ⟨sq,(C : Int),tg,⟨k1,nm,ot,at_,va,ep⟩⟩=false):=by rw [Hid,HS.out,show ((C : Int)).toNat=C from rfl,HG.out,decide_eq_false (show ¬ y < tg by omega),Bool.and_false]
          have hj2 : decide (tg<=y)=true:=decide_eq_true hty;clear hty;refine zad (by kernel_rfl) (by kernel_rfl) ?_
          repeat (go_big_quiet_step ((first | (go_at_call 129;exact zb1 (HEQ _)) | rfl)))
          refine wpQuiet_nil ?_;intro w6 hw6;obtain ⟨⟨wx,cx⟩,hwx⟩:=hw6;have b6 : Below W5.heap.size W5 w6:=by rw [hwx];exact cx
          have hb6:=za1 hb5 b6;clear hwx cx wx hne q0 q1 q2 q3 q4 q5 q6 q7 q8 HEQ qt
          go_wp2_with fail
          go_ret;exact ⟨za6 (HN.out HX.out).symm,hb6⟩
        have HX : Hid (zc5 k t ⟨sq,(C : Int),tg,⟨k1,nm,ot,at_,va,ep⟩⟩=true):=by rw [Hid,HS.out,show ((C : Int)).toNat=C from rfl,HG.out,HOK.out,decide_eq_true (show y < tg by omega),decide_eq_true HSQ.out];rfl
        have hj2 : decide (tg<=y)=false:=decide_eq_false hty;clear hty;have HIX : Hid _:=HY.out HX.out;refine zad (by kernel_rfl) (by kernel_rfl) ?_
        repeat (go_big_quiet_step ((first | (go_at_call 129;exact zb1 (HEQ _)) | rfl)))
        refine wpQuiet_nil ?_;intro w6 hw6;obtain ⟨⟨wx,cx⟩,hwx⟩:=hw6;have b6 : Below W5.heap.size W5 w6:=by rw [hwx];exact cx
        have hb6:=za1 hb5 b6;have own6:=za9 HO.out b6;have k6:=(b6.block _ s5).trans k5;have p1:=za0 k6 1;have p2:=za0 k6 2;have t6:=own6.cellAt C (by omega);have f6:=own6.frozenAt C;rw [List.getElem?_map,List.getElem?_eq_getElem (show C < t.length by omega)] at t6;simp only [Option.map_some] at t6;generalize t[C]=y6 at t6;obtain ⟨hst,hgr⟩:=own6.stored C (.int .i64 tg);rw [<- List.map_set] at hst;have hbf : Below w.heap.size w (w6.setCell ⟨w.heap.size,C,none⟩ (.int .i64 tg)):=zb8 (p:=⟨w.heap.size,C,none⟩) hb6 (by simp) _;have HFI : Hid _:=And.intro hst hbf;have htl2 : (t.set C tg).length=4:=by simpa using htl
        have HTL : Hid ((t.set C tg).length=4):=htl2;clear hwx cx wx hne q0 q1 q2 q3 q4 q5 q6 q7 q8 HEQ qt t0 hst hbf hgr own6 htl2 b6 hb6 HO hb5 HS HY HN HOK HG HX HIN k6 k5 htl
        go_wp2_with fail
        go_roundw
        case rel=>exact ⟨k+1,t.set C tg,by omega,by go_num,HTL.out,HIX.out,HFI.out.1,HFI.out.2⟩
        case measure=>simp [intOf];omega
      · have hj1 : (sq != (k : Int)+1)=true:=by rw [bne_iff_ne];exact hsq
        have HX : Hid (zc5 k t ⟨sq,(C : Int),tg,⟨k1,nm,ot,at_,va,ep⟩⟩=false):=by rw [Hid,HS.out,decide_eq_false hsq,Bool.and_false];rfl
        clear hsq;refine zad (by kernel_rfl) (by kernel_rfl) ?_
        repeat (go_big_quiet_step ((first | (go_at_call 129;exact zb1 (HEQ _)) | rfl)))
        refine wpQuiet_nil ?_;intro w6 hw6;obtain ⟨⟨wx,cx⟩,hwx⟩:=hw6;have b6 : Below W5.heap.size W5 w6:=by rw [hwx];exact cx
        have hb6:=za1 hb5 b6;clear hwx cx wx hne q0 q1 q2 q3 q4 q5 q6 q7 q8 HEQ
        go_wp2_with fail
        go_ret;exact ⟨za6 (HN.out HX.out).symm,hb6⟩
    · have HE : Hid (logOk l=decide ((l.length : Int)<=120)):=by
        rw [Hid,zpr (hin.trans (znh hlt)),decide_eq_true (show k=l.length by omega),Bool.and_true]
        congr 1
        rw [eq_iff_iff]
        omega
      clear HC HF hin own
      go_wp2_with fail
      go_ret;exact ⟨za6 HE.out.symm,hb⟩
structure ReadsS (w : World) (v1 v2 vb : Value) (s : Sf) : Prop where
  c : Reads w.heap.size w v1 (s.cs.map (Value.int .i64))
  p : Reads w.heap.size w v2 (s.ps.map (Value.int .i64))
  b : ∃ bks : List Bk,ReadsB w.heap.size w vb bks/\bks.map Bk.pb=s.bs
theorem ReadsS.below {w w' : World} {v1 v2 vb : Value} {s : Sf} (h : ReadsS w v1 v2 vb s) (k : Below w.heap.size w w') : ReadsS w' v1 v2 vb s:=by
  obtain ⟨bks,h1,h2⟩:=h.b;exact ⟨(h.c.below k).mono k.size,(h.p.below k).mono k.size,bks,(h1.below k).mono k.size,h2⟩
structure OwnD (base : Nat) (w : World) (v1 v2 vb : Value) (s : Sf) : Prop where
  p : OwnP base w v1 v2 s.cs s.ps
  b : ∃ bks : List Bk,OwnB base w vb bks/\bks.map Bk.pb=s.bs
theorem OwnD.below {base : Nat} {w w' : World} {v1 v2 vb : Value} {s : Sf} (h : OwnD base w v1 v2 vb s) (k : Below w.heap.size w w') : OwnD base w' v1 v2 vb s:=by
  obtain ⟨bks,h1,h2⟩:=h.b;exact ⟨h.p.below k,bks,h1.below k,h2⟩
theorem OwnD.upto {base c : Nat} {w w' : World} {v1 v2 vb : Value} {s : Sf} (h : OwnD base w v1 v2 vb s) (u : Upto c w w') (hc : c < base) : OwnD base w' v1 v2 vb s:=by
  obtain ⟨bks,h1,h2⟩:=h.b;exact ⟨h.p.upto u hc,bks,h1.upto u hc,h2⟩
theorem OwnD.mono {base base' : Nat} {w : World} {v1 v2 vb : Value} {s : Sf} (h : OwnD base w v1 v2 vb s) (k : base'<=base) : OwnD base' w v1 v2 vb s:=by
  obtain ⟨bks,h1,h2⟩:=h.b;exact ⟨h.p.mono k,bks,h1.mono k,h2⟩
theorem OwnD.reads {base : Nat} {w : World} {v1 v2 vb : Value} {s : Sf} (h : OwnD base w v1 v2 vb s) : ReadsS w v1 v2 vb s:=by
  obtain ⟨bks,h1,h2⟩:=h.b;exact ⟨Reads.of_own h.p.c,Reads.of_own h.p.p,bks,h1.reads,h2⟩
theorem OwnD.nil (base : Nat) (w : World) : OwnD base w (.slice none 0 0) (.slice none 0 0) (.slice none 0 0) ⟨[],[],[]⟩:=⟨OwnP.nil _ _,[],⟨World.ownsRow_nil _ _ _ _,fun b hb=>by cases hb⟩,rfl⟩
end Go.Proofs.YtfkkapdofjhgpaaGreatDoor
namespace Go.Proofs.YtfkkapdofjhgpaaGreatDoor
open Go.RowKit Nums
set_option linter.unusedVariables false
set_option maxRecDepth 100000
structure RpSt (w W : World) (base bs bm lo hi : Nat) (u1 u2 vb m1 m2 : Value) (bks : List Bk) (x : Rp) : Prop where
  st : ShSg (fun k=>lo<=k/\k < hi) #[u1,u2,.slice none 0 0] 30 0 base bs W u1 u2 vb bks x.s
  kM : W.heap[bm]? = some (.cells #[m1,m2] 33 (0,0))
  own : OwnM lo W m1 m2 x.ts x.rs
  kR : W.heap[w.heap.size]? = some (.cells #[.slice none 0 0,.slice none 0 0,.slice none 0 0] 30 (0,0))
  kQ : W.heap[w.heap.size+1]? = some (.cells #[.slice none 0 0,.slice none 0 0] 33 (0,0))
  d : Below w.heap.size w W
  hbm : lo<=bm/\bm < hi
  hb : w.heap.size+1+1<=base/\base<=bs/\base<=lo
  hm : ∀ g,m1.ownBlock=some g\/m2.ownBlock=some g->g < hi
variable {w W W' : World} {base bs bm lo hi : Nat} {u1 u2 vb m1 m2 : Value} {bks : List Bk} {x : Rp}
theorem RpSt.below (h : RpSt w W base bs bm lo hi u1 u2 vb m1 m2 bks x) (k : Below W.heap.size W W') : RpSt w W' base bs bm lo hi u1 u2 vb m1 m2 bks x :=
  ⟨h.st.below k,(k.block _ (za2 h.kM)).trans h.kM,h.own.below k,(k.block _ (za2 h.kR)).trans h.kR,(k.block _ (za2 h.kQ)).trans h.kQ,za1 h.d k,h.hbm,h.hb,h.hm⟩
theorem RpSt.did {vb' : Value} {bks' : List Bk} {s' : Sf} (h : RpSt w W base bs bm lo hi u1 u2 vb m1 m2 bks x) (st : ShSg (fun k=>lo<=k/\k < hi) #[u1,u2,.slice none 0 0] 30 0 base bs W' u1 u2 vb' bks' s') (f : Fr (fun k=>lo<=k/\k < hi) base W W') : RpSt w W' base bs bm lo hi u1 u2 vb' m1 m2 bks' ⟨s',x.ts,x.rs⟩:=by
  have hb:=h.hb;have hg : ∀ g,m1.ownBlock=some g\/m2.ownBlock=some g->g < W.heap.size->W'.heap[g]? = W.heap[g]?:=fun g q hl=>f.g g ⟨(h.own.span g q).1,h.hm g q⟩ hl
  exact ⟨st,(f.g bm h.hbm (za2 h.kM)).trans h.kM,⟨zai h.own.t (fun g hl q=>hg g (.inl q) hl),zai h.own.r (fun g hl q=>hg g (.inr q) hl)⟩,(f.b.block _ (by omega)).trans h.kR,(f.b.block _ (by omega)).trans h.kQ,h.d.trans (f.b.mono (by omega)),h.hbm,hb,h.hm⟩
theorem RpSt.memo {ts' : List Int} {rs' : List (Int × Int)} (h : RpSt w W base bs bm lo hi u1 u2 vb m1 m2 bks x) (u : Only (fun k=>m1.ownBlock=some k\/m2.ownBlock=some k) W W') (own : OwnM lo W' m1 m2 ts' rs') : RpSt w W' base bs bm lo hi u1 u2 vb m1 m2 bks ⟨x.s,ts',rs'⟩:=by
  have hb:=h.hb
  have hlo : ∀ k,m1.ownBlock=some k\/m2.ownBlock=some k->lo<=k/\k < hi:=fun k q=>⟨(h.own.span k q).1,h.hm k q⟩
  have keep : ∀ (e : TypeId) (kk n : Nat) (v : Value) (xs : List Value),(∀ g,v.ownBlock=some g->¬ (lo<=g/\g < hi))->W.ownsRow base e kk v n xs->W'.ownsRow base e kk v n xs:=fun e kk n v xs hv hr =>
    zbd hr u (fun g hg hs=>hv g hg (hlo g hs))
  have bx : ∀ n,(n < lo\/hi<=n)->n < W.heap.size->W'.heap[n]? = W.heap[n]?:=fun n hn hl=>u.block n hl (fun q=>by have:=hlo n q;omega)
  have hbs : bs < lo\/hi<=bs:=by have:=h.st.ng bs (.inl rfl);omega
  have mp : ∀ b ∈ bks,W'.ownsRow base 172 3 b.m b.rs.length (b.rs.flatMap zak):=fun b hb'=>zbd (h.st.books.maps b hb') u (fun g hg hs=>by
    rcases hs with q | q
    · exact zbh (h.st.books.maps b hb') h.own.t (by decide) g q hg
    · exact zbh (h.st.books.maps b hb') h.own.r (by decide) g q hg)
  refine ⟨⟨(bx bs hbs h.st.lt).trans h.st.box,h.st.hT,h.st.e0,h.st.e1,h.st.e2,h.st.lo,⟨keep _ _ _ _ _ (fun g hg=>h.st.ng g (.inr (.inl hg))) h.st.pool.c,keep _ _ _ _ _ (fun g hg=>h.st.ng g (.inr (.inr (.inl hg)))) h.st.pool.p,h.st.pool.apart⟩,⟨keep _ _ _ _ _ (fun g hg=>h.st.ng g (.inr (.inr (.inr hg)))) h.st.books.row,mp⟩,h.st.eq,h.st.ng,fun k hk=>Nat.lt_of_lt_of_le (h.st.gl k hk) u.size⟩,(u.block bm (za2 h.kM) (fun q=>?_)).trans h.kM,own,(bx _ (by omega) (za2 h.kR)).trans h.kR,(bx _ (by omega) (za2 h.kQ)).trans h.kQ,h.d.trans (u.toBelow (by have:=h.d.size;omega) (fun k q=>by have:=hlo k q;omega)),h.hbm,hb,h.hm⟩;rcases q with q | q
  · exact zaa h.own.t h.kM (by decide) q
  · exact zaa h.own.r h.kM (by decide) q
theorem zo8 {w : World} {b e k n cap m : Nat} {o : Option Addr} {xs : List Value} (h : w.ownsRow b e k (.slice o n cap) m xs) (hm : 0 < m) : ∃ g,o=some ⟨g,0,none⟩/\n=m:=by
  rcases h.2 with ⟨_,h0⟩ | ⟨g,cap',cur,e,_⟩
  · omega
  · simp only [Value.slice.injEq] at e
    exact ⟨g,e.1,e.2.1⟩
theorem RpSt.tag {g N c C : Nat} (h : RpSt w W base bs bm lo hi u1 u2 vb (.slice (some ⟨g,0,none⟩) N c) m2 bks x) (hC : C < x.ts.length) (tg : Int) : RpSt w (W.setCell ⟨g,C,none⟩ (.int .i64 tg)) base bs bm lo hi u1 u2 vb (.slice (some ⟨g,0,none⟩) N c) m2 bks ⟨x.s,x.ts.set C tg,x.rs⟩:=by
  obtain ⟨g',e,hn⟩:=zo8 h.own.t (by omega);cases e;have u : Upto g W (W.setCell ⟨g,C,none⟩ (.int .i64 tg)):=(Upto.refl _ _).setCell ⟨g,C,none⟩ (.inl rfl) _;have on : Only (fun k=>(Value.slice (some ⟨g,0,none⟩) N c).ownBlock=some k\/m2.ownBlock=some k) W (W.setCell ⟨g,C,none⟩ (.int .i64 tg)):=(Only.refl _ W).setCell ⟨g,C,none⟩ (.inl rfl) _;have ht:=h.own.t;rw [<- hn] at ht;have hs:=(ht.stored C (.int .i64 tg)).1;rw [<- List.map_set] at hs;refine h.memo on ⟨by rw [List.length_set,<- hn];exact hs,zai h.own.r (fun q hq hv=>u.block q hq (fun e=>h.own.apart g rfl (by rw [<- e];exact hv)))⟩
theorem RpSt.rep {g N c C : Nat} (h : RpSt w W base bs bm lo hi u1 u2 vb m1 (.slice (some ⟨g,0,none⟩) N c) bks x) (hC : C < x.rs.length) (rc rv : Int) : RpSt w ((W.setCell ⟨g,C * 2,none⟩ (.int .i64 rc)).setCell ⟨g,C * 2+1,none⟩ (.int .i64 rv)) base bs bm lo hi u1 u2 vb m1 (.slice (some ⟨g,0,none⟩) N c) bks ⟨x.s,x.ts,x.rs.set C (rc,rv)⟩:=by
  obtain ⟨g',e,hn⟩:=zo8 h.own.r (by omega);cases e;have u : Upto g W ((W.setCell ⟨g,C * 2,none⟩ (.int .i64 rc)).setCell ⟨g,C * 2+1,none⟩ (.int .i64 rv)):=((Upto.refl _ _).setCell ⟨g,C * 2,none⟩ (.inl rfl) _).setCell ⟨g,C * 2+1,none⟩ (.inl rfl) _;have on : Only (fun k=>m1.ownBlock=some k\/(Value.slice (some ⟨g,0,none⟩) N c).ownBlock=some k) W ((W.setCell ⟨g,C * 2,none⟩ (.int .i64 rc)).setCell ⟨g,C * 2+1,none⟩ (.int .i64 rv)):=((Only.refl _ W).setCell ⟨g,C * 2,none⟩ (.inr rfl) _).setCell ⟨g,C * 2+1,none⟩ (.inr rfl) _;have hr:=zsf h.own.r C hC rc rv;refine h.memo on ⟨zai h.own.t (fun q hq hv=>u.block q hq (fun e=>h.own.apart q hv (by rw [e];rfl))),hr⟩
theorem RpSt.fin (h : RpSt w W base bs bm lo hi u1 u2 vb m1 m2 bks x) : ∀ W',(W'=((((W.setCell ⟨w.heap.size,0,none⟩ u1).setCell ⟨w.heap.size,1,none⟩ u2).setCell ⟨w.heap.size,2,none⟩ vb).setCell ⟨w.heap.size+1,0,none⟩ m1).setCell ⟨w.heap.size+1,1,none⟩ m2\/W'=((((W.setCell ⟨w.heap.size+1,0,none⟩ m1).setCell ⟨w.heap.size+1,1,none⟩ m2).setCell ⟨w.heap.size,0,none⟩ u1).setCell ⟨w.heap.size,1,none⟩ u2).setCell ⟨w.heap.size,2,none⟩ vb) ->
    W'.heap[w.heap.size]? = some (.cells #[u1,u2,vb] 30 (0,0))/\W'.heap[w.heap.size+1]? = some (.cells #[m1,m2] 33 (0,0))/\OwnD w.heap.size W' u1 u2 vb x.s/\OwnM w.heap.size W' m1 m2 x.ts x.rs/\Below w.heap.size w W':=by
  have hb:=h.hb
  have od : OwnD base W u1 u2 vb x.s:=⟨h.st.pool,bks,h.st.books,h.st.eq⟩
  intro W' hW';rcases hW' with rfl | rfl
  · have a1:=zab (zab (zab h.kR 0 u1) 1 u2) 2 vb
    have ua : Upto w.heap.size W (((W.setCell ⟨w.heap.size,0,none⟩ u1).setCell ⟨w.heap.size,1,none⟩ u2).setCell ⟨w.heap.size,2,none⟩ vb):=(((Upto.refl _ _).setCell ⟨w.heap.size,0,none⟩ (.inl rfl) _).setCell ⟨w.heap.size,1,none⟩ (.inl rfl) _).setCell ⟨w.heap.size,2,none⟩ (.inl rfl) _;have kq:=(ua.block _ (za2 h.kQ) (by omega)).trans h.kQ;obtain ⟨b1,ub⟩:=zcp kq m1 m2;have ha:=(ub.block _ (za2 a1) (by omega)).trans a1;exact ⟨ha,b1,((od.upto ua (by omega)).upto ub (by omega)).mono (by omega),((h.own.upto ua (by omega)).upto ub (by omega)).mono (by omega),(h.d.trans (ua.toBelow (by have:=h.d.size;omega) (by omega))).trans (ub.toBelow (by have:=h.d.size;have:=ua.size;omega) (by omega))⟩
  · obtain ⟨b1,ub⟩:=zcp h.kQ m1 m2
    have kr:=(ub.block _ (za2 h.kR) (by omega)).trans h.kR;have a1:=zab (zab (zab kr 0 u1) 1 u2) 2 vb;have ua : ∀ X : World,Upto w.heap.size X (((X.setCell ⟨w.heap.size,0,none⟩ u1).setCell ⟨w.heap.size,1,none⟩ u2).setCell ⟨w.heap.size,2,none⟩ vb):=fun X=>(((Upto.refl _ _).setCell ⟨w.heap.size,0,none⟩ (.inl rfl) _).setCell ⟨w.heap.size,1,none⟩ (.inl rfl) _).setCell ⟨w.heap.size,2,none⟩ (.inl rfl) _
    have hb1:=((ua _).block _ (za2 b1) (by omega)).trans b1;exact ⟨a1,hb1,((od.upto ub (by omega)).upto (ua _) (by omega)).mono (by omega),((h.own.upto ub (by omega)).upto (ua _) (by omega)).mono (by omega),(h.d.trans (ub.toBelow (by have:=h.d.size;omega) (by omega))).trans ((ua _).toBelow (by have:=h.d.size;have:=ub.size;omega) (by omega))⟩
end Go.Proofs.YtfkkapdofjhgpaaGreatDoor
namespace Go.Proofs.YtfkkapdofjhgpaaGreatDoor
open Go.RowKit
set_option linter.unusedVariables false
set_option maxRecDepth 100000
theorem OwnM.forms {base : Nat} {w : World} {v1 v2 : Value} {ts : List Int} {rs : List (Int × Int)} (h : OwnM base w v1 v2 ts rs) : ∃ o1 c1 o2 c2,v1 = .slice o1 ts.length c1/\v2 = .slice o2 rs.length c2:=by
  obtain ⟨o1,c1,h1⟩:=za4 h.t;obtain ⟨o2,c2,h2⟩:=za4 h.r;exact ⟨o1,c1,o2,c2,h1,h2⟩
theorem zi1 (a1 a2 b1 b2 : Value) (cs : List Int) (ps : List (Int × Int)) (cs' : List Int) (ps' : List (Int × Int)) (w : World) (r : RM w.heap.size w a1 a2 cs ps) (r' : RM w.heap.size w b1 b2 cs' ps') :
    Calls Tryz.prog 37 #[.agg #[a1,a2],.agg #[b1,b2]] w fun e w'=>e = .returned (.bool (decide (cs=cs') && decide (ps=ps')))/\Below w.heap.size w w':=by
  obtain ⟨W0,hW0,k0,k1,d0,z0⟩:=zc7 w #[a1,a2] #[b1,b2] 33 33;have r0:=(r.below d0).mono d0.size;have r1:=(r'.below d0).mono d0.size;have HW0 : Hid (W0 = _):=hW0;clear hW0 r r'
  go_enter Tryz.func37,Tryz.ntmps37
  go_wp2_with fail
  rw [<- HW0.out];clear HW0;refine (zhz a1 b1 cs cs' _ r0.t r1.t).mono ?_;rintro e w1 ⟨rfl,b⟩;replace k0:=(b.block _ (by omega)).trans k0;replace k1:=(b.block _ (by omega)).trans k1;replace d0:=za1 d0 b;replace r0:=(r0.below b).mono b.size;replace r1:=(r1.below b).mono b.size;have p0:=za0 k0 1;have p1:=za0 k1 1;by_cases hc : cs=cs'
  · rw [decide_eq_true hc]
    go_wp2_with fail
    refine (zri a2 b2 ps ps' _ r0.r r1.r).mono ?_;rintro e w2 ⟨rfl,b2'⟩;replace d0:=za1 d0 b2';by_cases hp : ps=ps'
    · rw [decide_eq_true hp]
      have HC : Hid (cs=cs'):=hc;have HP : Hid (ps=ps'):=hp;clear hc hp
      go_wp2_with fail
      go_ret;exact ⟨za6 (by simp [HC.out,HP.out]),d0⟩
    · rw [decide_eq_false hp]
      have HP : Hid (¬ ps=ps'):=hp;clear hc hp
      go_wp2_with fail
      go_ret;exact ⟨za6 (by rw [decide_eq_false HP.out,Bool.and_false]),d0⟩
  · rw [decide_eq_false hc]
    have HP : Hid (¬ cs=cs'):=hc;clear hc
    go_wp2_with fail
    go_ret;exact ⟨za6 (by rw [decide_eq_false HP.out,Bool.false_and]),d0⟩
theorem zil (v1 v2 : Value) (n m : Nat) (k : Int) (w : World) (hk : 0<=k) (hk2 : k<=1048576) (hn : n<=1048576) (hm : m<=1048576) (r : RM w.heap.size w v1 v2 (zb6 k n) (zc6 (k+n) m)) :
    Calls Tryz.prog 43 #[.agg #[v1,v2],.int .i64 k] w fun e w'=>e = .returned (.int .i64 (k+n+2 * m))/\Below w.heap.size w w':=by
  obtain ⟨W0,hW0,k0,d0,z0⟩:=zb4 w #[v1,v2] 33;have r0:=(r.below d0).mono d0.size;have HW0 : Hid (W0 = _):=hW0;clear hW0 r
  go_enter Tryz.func43,Tryz.ntmps43
  go_wp2_with fail
  rw [<- HW0.out];clear HW0;refine (zj5 v1 n k _ hk (by omega) r0.t).mono ?_;rintro e w1 ⟨rfl,b⟩;replace k0:=(b.block _ (by omega)).trans k0;replace d0:=za1 d0 b;replace r0:=(r0.below b).mono b.size;have p1:=za0 k0 1;have h1 : 0<=k+(n : Int):=by omega
  go_wp2_with fail
  refine (ztn v2 m (k+n) _ h1 (by omega) hm r0.r).mono ?_;rintro e w2 ⟨rfl,b'⟩;replace d0:=za1 d0 b';have h2 : 0<=k+(n : Int)+2 * (m : Int):=by omega
  go_wp2_with fail
  go_ret;exact ⟨rfl,d0⟩
end Go.Proofs.YtfkkapdofjhgpaaGreatDoor
namespace Go.Proofs.YtfkkapdofjhgpaaGreatDoor
open Go.RowKit Nums
set_option linter.unusedVariables false
set_option maxRecDepth 100000
theorem zkc (n : Int) (v : Value) (l : List Ent) (w : World) (hf : ze0 l) (hok : ze3 n l=true) (r : ReadsR 9 zbs w.heap.size w v l) :
    Calls Tryz.prog 81 #[.int .i64 n,v] w fun e w'=>∃ u1 u2 ub t1 t2 : Value,e = .returned (.tuple #[.agg #[u1,u2,ub],.agg #[t1,t2]])/\OwnD w.heap.size w' u1 u2 ub (rpFrom (rpNew n) l).s/\OwnM w.heap.size w' t1 t2 (rpFrom (rpNew n) l).ts (rpFrom (rpNew n) l).rs/\Below w.heap.size w w':=by
  obtain ⟨hn,hl120,hio⟩:=zg9 hok;obtain ⟨o,cap,rfl,hm,hc,-⟩:=r;have HC : Hid _:=zd6 hc;have HF : Hid _:=hf;have HRD : Hid _:=fun k (hk : k<=l.length)=>zdx hn hio k hk
  have HSP : Hid _:=fun k (hk : k < l.length)=>zjs hn hio k hk
  obtain ⟨⟨⟨cs0,ps0⟩,made⟩,hnp⟩ : ∃ x,zao n=x:=⟨_,rfl⟩
  have HS0 : Hid (rpNew n=⟨⟨cs0,ps0,[]⟩,zf7.1,zf7.2⟩):=by rw [Hid,rpNew,hnp];rfl
  obtain ⟨W0,hW0,k0,k1,d0,z0⟩:=zc7 w #[.slice none 0 0,.slice none 0 0,.slice none 0 0] #[.slice none 0 0,.slice none 0 0] 30 33;have HW0 : Hid (W0 = _):=hW0;clear hW0 hc hm hok hf hio
  go_enter Tryz.func81,Tryz.ntmps81
  go_upto_region 1 with fail
  rw [<- HW0.out];clear HW0
  go_upto_region 2 with (go_at_call 133;refine (zj6 n _).mono ?_;rw [hnp];rintro e w1 ⟨u1,u2,rfl,ownP,b1⟩;dsimp only at ownP ⊢;obtain ⟨o1,c1,hf1⟩:=za4 ownP.c;obtain ⟨o2,c2,hf2⟩:=za4 ownP.p;subst hf1 hf2)
  have kS:=heap_alloc_new w1 (.cells #[.slice o1 cs0.length c1,.slice o2 ps0.length c2,.slice none 0 0] 30);have dS : Below w1.heap.size w1 (w1.alloc (.cells #[.slice o1 cs0.length c1,.slice o2 ps0.length c2,.slice none 0 0] 30)):=za3 (Below.refl _ _);have sS : (w1.alloc (.cells #[.slice o1 cs0.length c1,.slice o2 ps0.length c2,.slice none 0 0] 30)).heap.size=w1.heap.size+1:=by simp
  have ownS:=ownP.below dS;have k0S:=(dS.block _ (by have:=b1.size;omega)).trans ((b1.block _ (by omega)).trans k0);have k1S:=(dS.block _ (by have:=b1.size;omega)).trans ((b1.block _ (by omega)).trans k1);have d1S:=za1 (za1 d0 b1) dS;have hb1:=b1.size;clear ownP k0 k1 d0 dS b1 hnp;generalize w1.alloc (.cells #[.slice o1 cs0.length c1,.slice o2 ps0.length c2,.slice none 0 0] 30)=w2 at *
  go_upto_region 3 with (go_at_call 134;refine (zje _).mono ?_;rintro e w3 ⟨m1,m2,rfl,ownM,b3⟩;obtain ⟨o3,c3,o4,c4,hf3,hf4⟩:=ownM.forms;subst hf3 hf4)
  have kM:=heap_alloc_new w3 (.cells #[.slice o3 zf7.1.length c3,.slice o4 zf7.2.length c4] 33);have dM : Below w3.heap.size w3 (w3.alloc (.cells #[.slice o3 zf7.1.length c3,.slice o4 zf7.2.length c4] 33)):=za3 (Below.refl _ _);have sM : (w3.alloc (.cells #[.slice o3 zf7.1.length c3,.slice o4 zf7.2.length c4] 33)).heap.size=w3.heap.size+1:=by simp
  have hb3:=b3.size
  have rs0 : RpSt w (w3.alloc (.cells #[.slice o3 zf7.1.length c3,.slice o4 zf7.2.length c4] 33)) W0.heap.size w1.heap.size w3.heap.size w2.heap.size (w3.heap.size+1) (.slice o1 cs0.length c1) (.slice o2 ps0.length c2) (.slice none 0 0) (.slice o3 zf7.1.length c3) (.slice o4 zf7.2.length c4) [] (rpFrom (rpNew n) (l.take 0)):=by
    rw [List.take_zero,rpFrom,List.foldl_nil,HS0.out];have pl:=ownS.below b3;have pl2:=pl.below dM;refine ⟨⟨(dM.block _ (by omega)).trans ((b3.block _ (by omega)).trans kS),holds_shelf,rfl,rfl,by simp,by omega,pl2,⟨World.ownsRow_nil _ _ _ _,fun b hb=>by cases hb⟩,rfl,fun i hi hG=>?_,fun k hk=>by rw [sM];exact hk.2⟩,kM,ownM.below dM,(dM.block _ (by omega)).trans ((b3.block _ (by omega)).trans k0S),(dM.block _ (by omega)).trans ((b3.block _ (by omega)).trans k1S),za1 (za1 d1S b3) dM,by omega,by omega,fun g hg=>by have:=(ownM.span g hg).2;omega⟩;rcases hi with q | q | q | q
    · omega
    · have:=(ownS.c.lt i q).2;omega
    · have:=(ownS.p.lt i q).2;omega
    · cases q
  have hbo : W0.heap.size=w.heap.size+1+1:=z0;clear kS ownS k0S k1S d1S ownM b3 kM dM sM sS hb3 hb1;generalize w3.alloc (.cells #[.slice o3 zf7.1.length c3,.slice o4 zf7.2.length c4] 33)=w4 at *;generalize w3.heap.size+1=hi at *;generalize w3.heap.size=bm at *;generalize w2.heap.size=lo at *;generalize w1.heap.size=bs at *;generalize W0.heap.size=base at *;generalize cs0.length=N1 at *;generalize ps0.length=N2 at *;have q3 : zf7.1.length<=4/\4<=zf7.1.length:=by decide
  have q4 : zf7.2.length<=4/\4<=zf7.2.length:=by decide
  generalize zf7.1.length=N3 at *;generalize zf7.2.length=N4 at *
  go_wp2_with fail
  go_loopw [9] (fun i wr=>∃ (k : Nat) (vb : Value) (bks : List Bk),k<=l.length/\i = .int .i64 k/\RpSt w wr base bs bm lo hi (.slice o1 N1 c1) (.slice o2 N2 c2) vb (.slice o3 N3 c3) (.slice o4 N4 c4) bks (rpFrom (rpNew n) (l.take k))) (fun i _=>l.length - (intOf i).toNat)
  case atStart=>exact ⟨0,_,[],Nat.zero_le _,rfl,rs0⟩
  case round =>
    clear rs0;obtain ⟨k,vb,bks,hk,rfl,rp⟩:=hrel;by_cases hlt : k < l.length
    · obtain ⟨g0,off,e0,hg,-,a1,a2,a3,a4,a5,a6,a7,a8⟩:=HC.out k hlt
      have hfe:=HF.out l[k] (List.getElem_mem hlt);have hsp:=HSP.out k hlt;have hrr:=(HRD.out k hk).1;have HTK : Hid _:=zh0 (rpNew n) l k hlt;subst e0
      obtain ⟨xx,hxx⟩ : ∃ xx,l[k]=xx:=⟨_,rfl⟩
      rw [hxx] at a1 a2 a3 a4 a5 a6 a7 a8 hfe hsp HTK
      obtain ⟨X,hX⟩ : ∃ X,rpFrom (rpNew n) (l.take k)=X:=⟨_,rfl⟩
      rw [hX] at hsp hrr HTK rp;obtain ⟨sq,cl,tg,⟨ok,nm,ot,at_,va,ep⟩⟩:=xx;simp only at a1 a2 a3 a4 a5 a6 a7 a8;obtain ⟨hcl,-,-⟩:=zg8 hsp;have hcb:=(zgy hcl).2.2.1;simp only at hcb;obtain ⟨C,hC⟩:=Int.eq_ofNat_of_zero_le hcb.1;subst hC;obtain ⟨hl1,hl2⟩:=zj9 hrr.m;have hC1 : C < X.ts.length:=by omega
      have hC2 : C < X.rs.length:=by omega
      have hi0 : (0 : Int)<=(k : Int):=by omega
      have hi1 : (k : Int) < (l.length : Int):=by omega
      have hj0 : (0 : Int)<=(C : Int):=by omega
      have hj1 : (C : Int) < (N3 : Int):=by omega
      have hj2 : (C : Int) < (N4 : Int):=by omega
      have hgw : ∀ (W : World),Below w.heap.size w W->∀ (i : Nat) (u : Value),w.cell? ⟨g0,i,none⟩=some u->W.cell? ⟨g0,i,none⟩=some u:=fun W hW i u hu=>(hW.cell (p:=⟨g0,i,none⟩) hg).trans hu
      have HGW : Hid _:=hgw;have HA1 : Hid _:=a1;have HA2 : Hid _:=a2;replace a3:=HGW.out wr rp.d _ _ a3;replace a4:=HGW.out wr rp.d _ _ a4;replace a5:=HGW.out wr rp.d _ _ a5;replace a6:=HGW.out wr rp.d _ _ a6;replace a7:=HGW.out wr rp.d _ _ a7;replace a8:=HGW.out wr rp.d _ _ a8
      obtain ⟨⟨s',⟨rc,rv⟩⟩,hdo⟩ : ∃ y,doOp X.s ⟨ok,nm,ot,at_,va,ep⟩=y:=⟨_,rfl⟩
      have HST : Hid (rpStep X ⟨sq,(C : Int),tg,⟨ok,nm,ot,at_,va,ep⟩⟩=⟨s',X.ts.set C tg,X.rs.set C (rc,rv)⟩):=by rw [Hid,rpStep,hdo,Int.toNat_natCast]
      have HDO : Hid _:=hdo;have HRP : Hid _:=rp;have HIV : Hid _:=hrr.s;have HFE : Hid _:=hfe.1;clear hgw a1 a2 hxx hX hfe hsp hrr hcl hcb rp hdo hl1 hl2
      go_upto_region 7 with (go_at_call 86;refine (ztd _ _ _ 0 base bs _ _ vb bks X.s ok nm ot at_ va ep _ HFE.out.1 HFE.out.2 HIV.out HRP.out.st).mono ?_;rintro e w5 ⟨vb',bks',rfl,st5,fr5⟩;rw [HDO.out] at st5 ⊢;dsimp only at st5 ⊢)
      have rp6:=(HRP.out.did st5 fr5).below (za3 (o:=.cells #[.int .i64 rc,.int .i64 rv] 43) (Below.refl _ _));have kB:=heap_alloc_new w5 (.cells #[.int .i64 rc,.int .i64 rv] 43);clear st5 fr5 a3 a4 a5 a6 a7 a8;generalize w5.alloc (.cells #[.int .i64 rc,.int .i64 rv] 43)=w6 at *;generalize w5.heap.size=nb at *;obtain ⟨g1,e1,n1⟩:=zo8 rp6.own.t (show 0 < X.ts.length by omega);obtain ⟨g2,e2,n2⟩:=zo8 rp6.own.r (show 0 < X.rs.length by omega);subst e1 e2;have ht : w6.ownsRow lo 2 1 (.slice (some ⟨g1,0,none⟩) N3 c3) N3 (X.ts.map (Value.int .i64)):=by have:=rp6.own.t;simp only at this n1;rwa [<- n1] at this
      have HN : Hid _:=n2;have b1 : w6.drew.cell? ⟨g0,off+k * 9+1,none⟩=some (.int .i64 (C : Int)):=HGW.out w6 rp6.d _ _ HA1.out;have b2 : w6.drew.cell? ⟨g0,off+k * 9+2,none⟩=some (.int .i64 tg):=HGW.out w6 rp6.d _ _ HA2.out;have m0 : w6.drew.cell? ⟨bm,0,none⟩=some (.slice (some ⟨g1,0,none⟩) N3 c3):=za0 rp6.kM 0;have cT : w6.drew.cell? ⟨g1,C,none⟩=some (.int .i64 (X.ts.getD C 0)):=(ht.cellAt C (by omega)).trans (getD_some X.ts C hC1);have fT : w6.drew.frozen? ⟨g1,C,none⟩=false:=ht.frozenAt C;have HRP6 : Hid _:=(rp6.tag hC1 tg).below ((Below.refl _ _).drew);have hne : ¬ nb=g1:=fun e=>zaa ht kB (by decide) (by rw [e];rfl)
      have KB7 : Hid ((w6.setCell ⟨g1,C,none⟩ (.int .i64 tg)).drew.heap[nb]? = some (.cells #[.int .i64 rc,.int .i64 rv] 43 (0,0))):=(Below.heap_setCell w6 ⟨g1,C,none⟩ _ nb hne).trans kB;clear n1 n2 rp6 ht kB hne;generalize X.ts.getD C 0=yy at cT
      go_region
      go_upto_region 8 with fail
      have rp7:=HRP6.out;have kB:=KB7.out;clear HRP6 KB7 b1 b2 m0 cT fT;generalize (w6.setCell ⟨g1,C,none⟩ (.int .i64 tg)).drew=w7 at *;have hw1 : w7.drew.cell? ⟨g0,off+k * 9+1,none⟩=some (.int .i64 (C : Int)):=HGW.out w7 rp7.d _ _ HA1.out;have m1 : w7.drew.cell? ⟨bm,1,none⟩=some (.slice (some ⟨g2,0,none⟩) N4 c4):=za0 rp7.kM 1;obtain ⟨⟨t0,t1⟩,f0,f1⟩:=zsg rp7.own.r C hC2;have t0' : w7.drew.cell? ⟨g2,C * 2,none⟩=some (.int .i64 (X.rs[C]'hC2).1):=t0;have t1' : w7.drew.cell? ⟨g2,C * 2+1,none⟩=some (.int .i64 (X.rs[C]'hC2).2):=t1;have f0' : w7.drew.frozen? ⟨g2,C * 2,none⟩=false:=f0;have f1' : w7.drew.frozen? ⟨g2,C * 2+1,none⟩=false:=f1;have r0 : w7.drew.cell? ⟨nb,0,none⟩=some (.int .i64 rc):=za0 kB 0;have r1 : w7.drew.cell? ⟨nb,1,none⟩=some (.int .i64 rv):=za0 kB 1;have HRP8 : Hid _:=(rp7.rep hC2 rc rv).below ((Below.refl _ _).drew);have z0':=za0 kB 0;have z1':=za0 kB 1;clear rp7 kB;generalize (X.rs[C]'hC2).1=y1 at t0 t0';generalize (X.rs[C]'hC2).2=y2 at t1 t1'
      go_region
      all_goals
        have HFI : Hid _:=HRP8.out
        go_wp2_with fail
        go_roundw
        case rel=>exact ⟨k+1,vb',bks',by omega,by go_num,by rw [HTK.out,HST.out];exact HFI.out⟩
        case measure=>simp [intOf];omega
    · have htk : l.take k=l:=List.take_of_length_le (by omega)
      rw [htk] at rp;have hbk:=rp.st.books.row;obtain ⟨oB,cB,eB⟩:=za4 hbk;subst eB;have rpD:=rp.below ((Below.refl _ _).drew);have s0 : wr.drew.cell? ⟨bs,0,none⟩=some (.slice o1 N1 c1):=rp.st.c0;have s1 : wr.drew.cell? ⟨bs,1,none⟩=some (.slice o2 N2 c2):=rp.st.c1;have s2 : wr.drew.cell? ⟨bs,2,none⟩=some (.slice oB bks.length cB):=rp.st.c2;have m0 : wr.drew.cell? ⟨bm,0,none⟩=some (.slice o3 N3 c3):=za0 rp.kM 0;have m1 : wr.drew.cell? ⟨bm,1,none⟩=some (.slice o4 N4 c4):=za0 rp.kM 1;have kR : wr.drew.heap[w.heap.size]? = _:=rp.kR;have kQ : wr.drew.heap[w.heap.size+1]? = _:=rp.kQ;obtain ⟨q0,q1,q2⟩:=cq3 kR;obtain ⟨f0,f1,f2⟩:=oq3 kR;obtain ⟨p0,p1⟩:=cq2 kQ;obtain ⟨e0,e1⟩:=oq2 kQ;have q0' : wr.cell? ⟨w.heap.size,0,none⟩ = _:=q0;have q1' : wr.cell? ⟨w.heap.size,1,none⟩ = _:=q1;have q2' : wr.cell? ⟨w.heap.size,2,none⟩ = _:=q2;have f0' : wr.frozen? ⟨w.heap.size,0,none⟩ = _:=f0;have f1' : wr.frozen? ⟨w.heap.size,1,none⟩ = _:=f1;have f2' : wr.frozen? ⟨w.heap.size,2,none⟩ = _:=f2;have p0' : wr.cell? ⟨w.heap.size+1,0,none⟩ = _:=p0;have p1' : wr.cell? ⟨w.heap.size+1,1,none⟩ = _:=p1;have e0' : wr.frozen? ⟨w.heap.size+1,0,none⟩ = _:=e0;have e1' : wr.frozen? ⟨w.heap.size+1,1,none⟩ = _:=e1;have s0' : wr.cell? ⟨bs,0,none⟩ = _:=s0;have s1' : wr.cell? ⟨bs,1,none⟩ = _:=s1;have s2' : wr.cell? ⟨bs,2,none⟩ = _:=s2;have m0' : wr.cell? ⟨bm,0,none⟩ = _:=m0;have m1' : wr.cell? ⟨bm,1,none⟩ = _:=m1;have hhb:=rp.hb;have hhm:=rp.hbm;have x1 : ¬ bm=w.heap.size:=by omega
      have x2 : ¬ bm=w.heap.size+1:=by omega
      have x3 : ¬ bs=w.heap.size:=by omega
      have x4 : ¬ bs=w.heap.size+1:=by omega
      have x5 : ¬ w.heap.size=bm:=by omega
      have x6 : ¬ w.heap.size+1=bm:=by omega
      have x7 : ¬ w.heap.size=bs:=by omega
      have x8 : ¬ w.heap.size+1=bs:=by omega
      clear hhb hhm;have HFN : Hid _:=rp.fin;clear rpD kR kQ htk hbk rp HC
      go_wp2_with fail
      go_region
      all_goals
        obtain ⟨h1,h2,h3,h4,h5⟩:=HFN.out _ (by first | exact .inl rfl | exact .inr rfl);have HE : Hid _:=And.intro h1 (And.intro h2 (And.intro h3 (And.intro h4 h5)));clear h1 h2 h3 h4 h5 HFN
        go_wp2_with fail
        exact bodyPost_ret (v:=.tuple #[.agg #[.slice o1 N1 c1,.slice o2 N2 c2,.slice oB bks.length cB],.agg #[.slice o3 N3 c3,.slice o4 N4 c4]]) (by simp [results,Tryz.results81,go_sem,za0 HE.out.1,za0 HE.out.2.1]) rfl ⟨_,_,_,_,_,rfl,HE.out.2.2.1.below ((Below.refl _ _).drew),HE.out.2.2.2.1.below ((Below.refl _ _).drew),HE.out.2.2.2.2.drew⟩
end Go.Proofs.YtfkkapdofjhgpaaGreatDoor
