import Derived.Test.YtfkkapdofjhgpaaGreatDoorM06
import Derived.Test.YtfkkapdofjhgpaaGreatDoorM08
import Derived.Test.YtfkkapdofjhgpaaGreatDoorM18
import Derived.Test.YtfkkapdofjhgpaaGreatDoorM23
set_option maxHeartbeats 12800000
namespace Go.Proofs.YtfkkapdofjhgpaaGreatDoor
open Go.RowKit
set_option linter.unusedVariables false
theorem zb7 {a b : Value} (h : a=b) : Ending.returned a = .returned b:=by rw [h]
theorem zlt (bs : List Pb) (nm ot : ByteArray) (at_ va ep : Int) : za5 bs ⟨1,nm,ot,at_,va,ep⟩=if 0<=findP bs nm then 3 else if bs.length=6 then 7 else 0:=by
  have h1 : kOther 1=false:=rfl;simp [za5,h1]
theorem zd7 (k : Int) (hk : k=4\/k=5) (bs : List Pb) (nm ot : ByteArray) (at_ va ep : Int) : za5 bs ⟨k,nm,ot,at_,va,ep⟩=if findP bs nm < 0 then 2 else if 0<=findP bs ot then 3 else if bs.length=6 then 7 else 0:=by
  rcases hk with rfl | rfl <;> simp [za5,kOther,kEpoch,kAt]
theorem zcy (k : Int) (hk : k=2\/k=3) (bs : List Pb) (nm ot : ByteArray) (at_ va ep : Int) : za5 bs ⟨k,nm,ot,at_,va,ep⟩=if findP bs nm < 0 then 2 else if ep < (zau bs (findP bs nm)).ep then 4 else if (zau bs (findP bs nm)).fx=true then 5 else if (zau bs (findP bs nm)).sz<=at_ then 6 else 0:=by
  rcases hk with rfl | rfl <;> simp [za5,kOther,kEpoch,kAt]
theorem zlu (bs : List Pb) (nm ot : ByteArray) (at_ va ep : Int) : za5 bs ⟨6,nm,ot,at_,va,ep⟩=if findP bs nm < 0 then 2 else if ep < (zau bs (findP bs nm)).ep then 4 else 0:=by
  simp [za5,kOther,kEpoch,kAt]
theorem zin (bs : List Pb) (nm ot : ByteArray) (at_ va ep : Int) : za5 bs ⟨7,nm,ot,at_,va,ep⟩=if findP bs nm < 0 then 2 else if ep < (zau bs (findP bs nm)).ep then 4 else if (zau bs (findP bs nm)).fx=true then 5 else 0:=by
  simp [za5,kOther,kEpoch,kAt]
theorem zlv (bs : List Pb) (nm ot : ByteArray) (at_ va ep : Int) : za5 bs ⟨8,nm,ot,at_,va,ep⟩=if findP bs nm < 0 then 2 else if (zau bs (findP bs nm)).ep=1000 then 8 else 0:=by
  simp [za5,kOther,kEpoch,kAt]
theorem zlw (bs : List Pb) (nm ot : ByteArray) (at_ va ep : Int) : za5 bs ⟨9,nm,ot,at_,va,ep⟩=if findP bs nm < 0 then 2 else if (zau bs (findP bs nm)).sz<=at_ then 6 else 0:=by
  simp [za5,kOther,kEpoch,kAt]
theorem zdb (bks : List Bk) (n : ByteArray) : zag bks n=findP (bks.map Bk.pb) n:=by
  rw [zag,findP,List.map_map]
  rfl
theorem zde (bks : List Bk) (n : ByteArray) : zag bks n < bks.length:=by
  rcases zkt n (bks.map Bk.nm) 0 with h | ⟨h1,h2,h3⟩
  · rw [zag,h];omega
  · rw [List.length_map] at h2;rw [zag];omega
theorem zeb (bks : List Bk) (F : Int) (h : ¬ F < 0) : zau (bks.map Bk.pb) F=(bkAt bks F).pb:=by
  rw [zau,bkAt,if_neg h,List.getD_eq_getElem?_getD,List.getD_eq_getElem?_getD,List.getElem?_map];cases bks[F.toNat]? <;> rfl
theorem zcz (bks : List Bk) (F : Int) (hms : ∀ b ∈ bks,∃ o k cap,b.m = .slice o k cap) : ∃ o k cap,(bkAt bks F).m = .slice o k cap:=by
  rw [bkAt]
  split
  · exact ⟨none,0,0,rfl⟩
  · rw [List.getD_eq_getElem?_getD]
    cases h : bks[F.toNat]? with
    | none=>exact ⟨none,0,0,rfl⟩
    | some x=>exact hms x (List.mem_of_getElem? h)
set_option maxRecDepth 100000 in
theorem zxu (vb : Value) (bks : List Bk) (nm ot : ByteArray) (at_ va ep : Int) (w : World) (ad : Nat->Addr) (hv : Vars w ad) (hn : nm.size<=maxLen) (ho : ot.size<=maxLen) (fa : I64 at_) (fv : I64 va) (fe : I64 ep) (hlen : bks.length<=6) (hep : ∀ b ∈ bks,b.ep<=1000) (hms : ∀ b ∈ bks,∃ o k cap,b.m = .slice o k cap) (r : ReadsR 5 bookC w.heap.size w vb bks) (hok : opOk ⟨1,nm,ot,at_,va,ep⟩=true) :
    Calls Tryz.prog 207 #[vb,.agg #[.int .i64 1,.string nm,.string ot,.int .i64 at_,.int .i64 va,.int .i64 ep]] w fun e w'=>e = .returned (refErr ad (za5 (bks.map Bk.pb) ⟨1,nm,ot,at_,va,ep⟩))/\Below w.heap.size w w':=by
  obtain ⟨ob,cpb,hvb,mb,-,-⟩:=id r;subst hvb;unfold maxLen at mb;obtain ⟨W0,hW0,k0,d0,z0⟩:=zb4 w #[.int .i64 1,.string nm,.string ot,.int .i64 at_,.int .i64 va,.int .i64 ep] 37;have HW0 : Hid (W0 = _):=hW0;have HMS : Hid _:=hms;have r0:=(r.below d0).mono d0.size;have hv0:=hv.below d0;have p1:=za0 k0 1;have hFl:=zde bks nm
  obtain ⟨F,hF⟩ : ∃ F,zag bks nm=F:=⟨_,rfl⟩
  have HFB : Hid (zag bks nm=F):=hF;have HFP : Hid (findP (bks.map Bk.pb) nm=F):=by rw [Hid,<- zdb];exact hF
  have HBK : Hid (0<=F->zau (bks.map Bk.pb) F=(bkAt bks F).pb):=fun h=>zeb bks F (by omega)
  have hform:=zcz bks F hms;rw [hF] at hFl;clear hW0 z0 r hv hms hF
  go_enter Tryz.func207,Tryz.ntmps207
  go_wp2_with fail
  rw [<- HW0.out];clear HW0 p1;refine (zal _ bks nm _ HMS.out r0).mono ?_;rw [HFB.out];rintro e w1 ⟨rfl,b1⟩;replace k0:=kb0 b1 k0;replace d0:=za1 d0 b1;replace r0:=(r0.below b1).mono b1.size;replace hv0:=hv0.below b1;clear b1
  go_wp2_with fail
  refine (zch _ bks F _ hFl HMS.out r0).mono ?_;rintro e w2 ⟨rfl,b2⟩;replace k0:=kb0 b2 k0;replace d0:=za1 d0 b2;replace r0:=(r0.below b2).mono b2.size;replace hv0:=hv0.below b2;clear b2
  obtain ⟨x,hx⟩ : ∃ x,bkAt bks F=x:=⟨_,rfl⟩
  rw [hx] at HBK hform ⊢;clear hx;obtain ⟨xn,xs,xm,xr,xf,xe⟩:=x;obtain ⟨ox,kx,cx,hxm⟩:=hform;simp only at hxm;subst hxm;simp only [Bk.pb] at HBK;obtain ⟨W3,hW3,k6,d3,z3⟩:=zb4 w2 #[.string xn,.int .i64 xs,.slice ox kx cx,.bool xf,.int .i64 xe] 117;have HW3 : Hid (W3 = _):=hW3;replace k0:=kb0 d3 k0;replace d0:=za1 d0 d3;replace r0:=(r0.below d3).mono d3.size;replace hv0:=hv0.below d3;obtain ⟨p0,p1,p2,p3,p4,p5⟩:=cq6 k0;rw [hW3] at p0 p1 p2 p3 p4 p5;clear hW3 z3 d3;simp only [bookC]
  go_wp2_with fail
  rw [<- HW3.out];clear HW3 p0 p1 p2 p3 p4 p5;refine (zbr 1 nm ot at_ va ep _ hn ho (by unfold I64;omega) fa fv fe).mono ?_;rw [hok];rintro e w4 ⟨rfl,b4⟩;replace k0:=kb0 b4 k0;replace k6:=kb0 b4 k6;replace d0:=za1 d0 b4;replace r0:=(r0.below b4).mono b4.size;replace hv0:=hv0.below b4;clear b4;have HLN : Hid ((bks.map Bk.pb).length=bks.length):=List.length_map _
  obtain ⟨bs,hbs⟩ : ∃ bs,bks.map Bk.pb=bs:=⟨_,rfl⟩
  have HBS : Hid (bks.map Bk.pb=bs):=hbs;rw [hbs] at HFP HBK HLN;clear hbs;have M : ∀ w : World,Calls Tryz.prog 229 #[.int .i64 1] w fun e w'=>e = .returned (.bool true)/\w'=w:=fun w=>zd9 1 (by omega) w
  have E : ∀ w : World,Calls Tryz.prog 231 #[.int .i64 1] w fun e w'=>e = .returned (.bool false)/\w'=w:=fun w=>zbq 1 (by omega) w
  have C : ∀ w : World,Calls Tryz.prog 232 #[.int .i64 1] w fun e w'=>e = .returned (.bool false)/\w'=w:=fun w=>zbf 1 (by omega) w
  have P : ∀ w : World,Calls Tryz.prog 233 #[.int .i64 1] w fun e w'=>e = .returned (.bool false)/\w'=w:=fun w=>zbx 1 (by omega) w
  obtain ⟨p0,p1,p2,p3,p4,p5⟩:=cq6 k0;have q1:=za0 k6 1;have q3:=za0 k6 3;have q4:=za0 k6 4;have g3:=hv0.cell 4 (by decide);have g7:=hv0.cell 8 (by decide)
  go_wp2_with (first | (go_at_call 229;refine (M _).mono ?_;rintro e w' ⟨rfl,rfl⟩) | (go_at_call 231;refine (E _).mono ?_;rintro e w' ⟨rfl,rfl⟩) | (go_at_call 232;refine (C _).mono ?_;rintro e w' ⟨rfl,rfl⟩) | (go_at_call 233;refine (P _).mono ?_;rintro e w' ⟨rfl,rfl⟩))
  refine (zmb nm ot at_ va ep _).mono ?_;rintro e w5 ⟨rfl,b5⟩;replace k0:=kb0 b5 k0;replace k6:=kb0 b5 k6;replace d0:=za1 d0 b5;replace r0:=(r0.below b5).mono b5.size;replace hv0:=hv0.below b5;clear p0 p1 p2 p3 p4 p5 q1 q3 q4 g3 g7 b5
  go_wp2_with fail
  refine (zal _ bks nm _ HMS.out r0).mono ?_;have HNP : Hid (findP bs nm=F):=HFP.out;rw [HFB.out]
  obtain ⟨G,hG⟩ : ∃ G,F=G:=⟨_,rfl⟩
  subst hG;rintro e w6 ⟨rfl,b6⟩;replace k0:=kb0 b6 k0;replace k6:=kb0 b6 k6;replace d0:=za1 d0 b6;replace r0:=(r0.below b6).mono b6.size;replace hv0:=hv0.below b6;clear b6;obtain ⟨p0,p1,p2,p3,p4,p5⟩:=cq6 k0;have q1:=za0 k6 1;have q3:=za0 k6 3;have q4:=za0 k6 4;have g3:=hv0.cell 4 (by decide);have g7:=hv0.cell 8 (by decide);by_cases h3 : 0<=F
  · skip
    have HV : Hid (refErr ad (za5 bs ⟨1,nm,ot,at_,va,ep⟩) = .iface 218 (.agg #[.int .i64 3,.iface 334 (.pointer (some (ad 4)))])):=by
      have e1 : za5 bs ⟨1,nm,ot,at_,va,ep⟩=3:=by rw [zlt,HFP.out,if_pos (by omega)]
      rw [e1];rfl
    clear HFP HFB HBK
    go_wp2_with (first | (go_at_call 229;refine (M _).mono ?_;rintro e w' ⟨rfl,rfl⟩) | (go_at_call 231;refine (E _).mono ?_;rintro e w' ⟨rfl,rfl⟩) | (go_at_call 232;refine (C _).mono ?_;rintro e w' ⟨rfl,rfl⟩) | (go_at_call 233;refine (P _).mono ?_;rintro e w' ⟨rfl,rfl⟩))
    go_ret;exact ⟨zb7 (by rw [HBS.out];exact HV.out.symm),d0⟩
  by_cases h7 : (6 : Int)<=(bks.length : Int)
  · skip
    have hl6 : bks.length=6:=by omega
    have HV : Hid (refErr ad (za5 bs ⟨1,nm,ot,at_,va,ep⟩) = .iface 218 (.agg #[.int .i64 7,.iface 334 (.pointer (some (ad 8)))])):=by
      have e1 : za5 bs ⟨1,nm,ot,at_,va,ep⟩=7:=by rw [zlt,HFP.out,if_neg (by omega),HLN.out,if_pos (by omega)]
      rw [e1];rfl
    clear HFP HFB HBK
    go_wp2_with (first | (go_at_call 229;refine (M _).mono ?_;rintro e w' ⟨rfl,rfl⟩) | (go_at_call 231;refine (E _).mono ?_;rintro e w' ⟨rfl,rfl⟩) | (go_at_call 232;refine (C _).mono ?_;rintro e w' ⟨rfl,rfl⟩) | (go_at_call 233;refine (P _).mono ?_;rintro e w' ⟨rfl,rfl⟩))
    go_ret;exact ⟨zb7 (by rw [HBS.out];exact HV.out.symm),d0⟩
  have hl6 : ¬ bks.length=6:=by omega
  have HV : Hid (refErr ad (za5 bs ⟨1,nm,ot,at_,va,ep⟩) = .nilIface):=by
    have e1 : za5 bs ⟨1,nm,ot,at_,va,ep⟩=0:=by rw [zlt,HFP.out,if_neg (by omega),HLN.out,if_neg (by omega)]
    rw [e1];rfl
  clear HFP HFB HBK
  go_wp2_with (first | (go_at_call 229;refine (M _).mono ?_;rintro e w' ⟨rfl,rfl⟩) | (go_at_call 231;refine (E _).mono ?_;rintro e w' ⟨rfl,rfl⟩) | (go_at_call 232;refine (C _).mono ?_;rintro e w' ⟨rfl,rfl⟩) | (go_at_call 233;refine (P _).mono ?_;rintro e w' ⟨rfl,rfl⟩))
  go_ret;exact ⟨zb7 (by rw [HBS.out];exact HV.out.symm),d0⟩
set_option maxRecDepth 100000 in
theorem zxv (vb : Value) (bks : List Bk) (nm ot : ByteArray) (at_ va ep : Int) (w : World) (ad : Nat->Addr) (hv : Vars w ad) (hn : nm.size<=maxLen) (ho : ot.size<=maxLen) (fa : I64 at_) (fv : I64 va) (fe : I64 ep) (hlen : bks.length<=6) (hep : ∀ b ∈ bks,b.ep<=1000) (hms : ∀ b ∈ bks,∃ o k cap,b.m = .slice o k cap) (r : ReadsR 5 bookC w.heap.size w vb bks) (hok : opOk ⟨2,nm,ot,at_,va,ep⟩=true) :
    Calls Tryz.prog 207 #[vb,.agg #[.int .i64 2,.string nm,.string ot,.int .i64 at_,.int .i64 va,.int .i64 ep]] w fun e w'=>e = .returned (refErr ad (za5 (bks.map Bk.pb) ⟨2,nm,ot,at_,va,ep⟩))/\Below w.heap.size w w':=by
  obtain ⟨ob,cpb,hvb,mb,-,-⟩:=id r;subst hvb;unfold maxLen at mb;obtain ⟨W0,hW0,k0,d0,z0⟩:=zb4 w #[.int .i64 2,.string nm,.string ot,.int .i64 at_,.int .i64 va,.int .i64 ep] 37;have HW0 : Hid (W0 = _):=hW0;have HMS : Hid _:=hms;have r0:=(r.below d0).mono d0.size;have hv0:=hv.below d0;have p1:=za0 k0 1;have hFl:=zde bks nm
  obtain ⟨F,hF⟩ : ∃ F,zag bks nm=F:=⟨_,rfl⟩
  have HFB : Hid (zag bks nm=F):=hF;have HFP : Hid (findP (bks.map Bk.pb) nm=F):=by rw [Hid,<- zdb];exact hF
  have HBK : Hid (0<=F->zau (bks.map Bk.pb) F=(bkAt bks F).pb):=fun h=>zeb bks F (by omega)
  have hform:=zcz bks F hms;rw [hF] at hFl;clear hW0 z0 r hv hms hF
  go_enter Tryz.func207,Tryz.ntmps207
  go_wp2_with fail
  rw [<- HW0.out];clear HW0 p1;refine (zal _ bks nm _ HMS.out r0).mono ?_;rw [HFB.out];rintro e w1 ⟨rfl,b1⟩;replace k0:=kb0 b1 k0;replace d0:=za1 d0 b1;replace r0:=(r0.below b1).mono b1.size;replace hv0:=hv0.below b1;clear b1
  go_wp2_with fail
  refine (zch _ bks F _ hFl HMS.out r0).mono ?_;rintro e w2 ⟨rfl,b2⟩;replace k0:=kb0 b2 k0;replace d0:=za1 d0 b2;replace r0:=(r0.below b2).mono b2.size;replace hv0:=hv0.below b2;clear b2
  obtain ⟨x,hx⟩ : ∃ x,bkAt bks F=x:=⟨_,rfl⟩
  rw [hx] at HBK hform ⊢;clear hx;obtain ⟨xn,xs,xm,xr,xf,xe⟩:=x;obtain ⟨ox,kx,cx,hxm⟩:=hform;simp only at hxm;subst hxm;simp only [Bk.pb] at HBK;obtain ⟨W3,hW3,k6,d3,z3⟩:=zb4 w2 #[.string xn,.int .i64 xs,.slice ox kx cx,.bool xf,.int .i64 xe] 117;have HW3 : Hid (W3 = _):=hW3;replace k0:=kb0 d3 k0;replace d0:=za1 d0 d3;replace r0:=(r0.below d3).mono d3.size;replace hv0:=hv0.below d3;obtain ⟨p0,p1,p2,p3,p4,p5⟩:=cq6 k0;rw [hW3] at p0 p1 p2 p3 p4 p5;clear hW3 z3 d3;simp only [bookC]
  go_wp2_with fail
  rw [<- HW3.out];clear HW3 p0 p1 p2 p3 p4 p5;refine (zbr 2 nm ot at_ va ep _ hn ho (by unfold I64;omega) fa fv fe).mono ?_;rw [hok];rintro e w4 ⟨rfl,b4⟩;replace k0:=kb0 b4 k0;replace k6:=kb0 b4 k6;replace d0:=za1 d0 b4;replace r0:=(r0.below b4).mono b4.size;replace hv0:=hv0.below b4;clear b4;have HLN : Hid ((bks.map Bk.pb).length=bks.length):=List.length_map _
  obtain ⟨bs,hbs⟩ : ∃ bs,bks.map Bk.pb=bs:=⟨_,rfl⟩
  have HBS : Hid (bks.map Bk.pb=bs):=hbs;rw [hbs] at HFP HBK HLN;clear hbs;have M : ∀ w : World,Calls Tryz.prog 229 #[.int .i64 2] w fun e w'=>e = .returned (.bool false)/\w'=w:=fun w=>zd9 2 (by omega) w
  have E : ∀ w : World,Calls Tryz.prog 231 #[.int .i64 2] w fun e w'=>e = .returned (.bool true)/\w'=w:=fun w=>zbq 2 (by omega) w
  have C : ∀ w : World,Calls Tryz.prog 232 #[.int .i64 2] w fun e w'=>e = .returned (.bool true)/\w'=w:=fun w=>zbf 2 (by omega) w
  have P : ∀ w : World,Calls Tryz.prog 233 #[.int .i64 2] w fun e w'=>e = .returned (.bool true)/\w'=w:=fun w=>zbx 2 (by omega) w
  obtain ⟨p0,p1,p2,p3,p4,p5⟩:=cq6 k0;have q1:=za0 k6 1;have q3:=za0 k6 3;have q4:=za0 k6 4;have g2:=hv0.cell 3 (by decide);have g4:=hv0.cell 5 (by decide);have g5:=hv0.cell 6 (by decide);have g6:=hv0.cell 7 (by decide);by_cases h2 : F < 0
  · skip
    have HV : Hid (refErr ad (za5 bs ⟨2,nm,ot,at_,va,ep⟩) = .iface 218 (.agg #[.int .i64 2,.iface 334 (.pointer (some (ad 3)))])):=by
      have e1 : za5 bs ⟨2,nm,ot,at_,va,ep⟩=2:=by rw [zcy 2 (.inl rfl),HFP.out,if_pos (by omega)]
      rw [e1];rfl
    clear HFP HFB HBK
    go_wp2_with (first | (go_at_call 229;refine (M _).mono ?_;rintro e w' ⟨rfl,rfl⟩) | (go_at_call 231;refine (E _).mono ?_;rintro e w' ⟨rfl,rfl⟩) | (go_at_call 232;refine (C _).mono ?_;rintro e w' ⟨rfl,rfl⟩) | (go_at_call 233;refine (P _).mono ?_;rintro e w' ⟨rfl,rfl⟩))
    go_ret;exact ⟨zb7 (by rw [HBS.out];exact HV.out.symm),d0⟩
  by_cases h4 : ep < xe
  · skip
    have HV : Hid (refErr ad (za5 bs ⟨2,nm,ot,at_,va,ep⟩) = .iface 218 (.agg #[.int .i64 4,.iface 334 (.pointer (some (ad 5)))])):=by
      have e1 : za5 bs ⟨2,nm,ot,at_,va,ep⟩=4:=by rw [zcy 2 (.inl rfl),HFP.out,if_neg (by omega),HBK.out (by omega),if_pos (show ep < xe by omega)]
      rw [e1];rfl
    clear HFP HFB HBK
    go_wp2_with (first | (go_at_call 229;refine (M _).mono ?_;rintro e w' ⟨rfl,rfl⟩) | (go_at_call 231;refine (E _).mono ?_;rintro e w' ⟨rfl,rfl⟩) | (go_at_call 232;refine (C _).mono ?_;rintro e w' ⟨rfl,rfl⟩) | (go_at_call 233;refine (P _).mono ?_;rintro e w' ⟨rfl,rfl⟩))
    go_ret;exact ⟨zb7 (by rw [HBS.out];exact HV.out.symm),d0⟩
  cases xf
  case true =>
    have HV : Hid (refErr ad (za5 bs ⟨2,nm,ot,at_,va,ep⟩) = .iface 218 (.agg #[.int .i64 5,.iface 334 (.pointer (some (ad 6)))])):=by
      have e1 : za5 bs ⟨2,nm,ot,at_,va,ep⟩=5:=by rw [zcy 2 (.inl rfl),HFP.out,if_neg (by omega),HBK.out (by omega),if_neg (show ¬ ep < xe by omega),if_pos rfl]
      rw [e1];rfl
    clear HFP HFB HBK
    go_wp2_with (first | (go_at_call 229;refine (M _).mono ?_;rintro e w' ⟨rfl,rfl⟩) | (go_at_call 231;refine (E _).mono ?_;rintro e w' ⟨rfl,rfl⟩) | (go_at_call 232;refine (C _).mono ?_;rintro e w' ⟨rfl,rfl⟩) | (go_at_call 233;refine (P _).mono ?_;rintro e w' ⟨rfl,rfl⟩))
    go_ret;exact ⟨zb7 (by rw [HBS.out];exact HV.out.symm),d0⟩
  by_cases h6 : xs<=at_
  · skip
    have HV : Hid (refErr ad (za5 bs ⟨2,nm,ot,at_,va,ep⟩) = .iface 218 (.agg #[.int .i64 6,.iface 334 (.pointer (some (ad 7)))])):=by
      have e1 : za5 bs ⟨2,nm,ot,at_,va,ep⟩=6:=by rw [zcy 2 (.inl rfl),HFP.out,if_neg (by omega),HBK.out (by omega),if_neg (show ¬ ep < xe by omega),if_neg (show ¬ false=true from Bool.false_ne_true),if_pos (show xs<=at_ by omega)]
      rw [e1];rfl
    clear HFP HFB HBK
    go_wp2_with (first | (go_at_call 229;refine (M _).mono ?_;rintro e w' ⟨rfl,rfl⟩) | (go_at_call 231;refine (E _).mono ?_;rintro e w' ⟨rfl,rfl⟩) | (go_at_call 232;refine (C _).mono ?_;rintro e w' ⟨rfl,rfl⟩) | (go_at_call 233;refine (P _).mono ?_;rintro e w' ⟨rfl,rfl⟩))
    go_ret;exact ⟨zb7 (by rw [HBS.out];exact HV.out.symm),d0⟩
  have hA2 : ¬ xs<=at_:=h6
  have HV : Hid (refErr ad (za5 bs ⟨2,nm,ot,at_,va,ep⟩) = .nilIface):=by
    have e1 : za5 bs ⟨2,nm,ot,at_,va,ep⟩=0:=by rw [zcy 2 (.inl rfl),HFP.out,if_neg (by omega),HBK.out (by omega),if_neg (show ¬ ep < xe by omega),if_neg (show ¬ false=true from Bool.false_ne_true),if_neg (show ¬ xs<=at_ by omega)]
    rw [e1];rfl
  clear HFP HFB HBK
  go_wp2_with (first | (go_at_call 229;refine (M _).mono ?_;rintro e w' ⟨rfl,rfl⟩) | (go_at_call 231;refine (E _).mono ?_;rintro e w' ⟨rfl,rfl⟩) | (go_at_call 232;refine (C _).mono ?_;rintro e w' ⟨rfl,rfl⟩) | (go_at_call 233;refine (P _).mono ?_;rintro e w' ⟨rfl,rfl⟩))
  go_ret;exact ⟨zb7 (by rw [HBS.out];exact HV.out.symm),d0⟩
set_option maxRecDepth 100000 in
theorem zxw (vb : Value) (bks : List Bk) (nm ot : ByteArray) (at_ va ep : Int) (w : World) (ad : Nat->Addr) (hv : Vars w ad) (hn : nm.size<=maxLen) (ho : ot.size<=maxLen) (fa : I64 at_) (fv : I64 va) (fe : I64 ep) (hlen : bks.length<=6) (hep : ∀ b ∈ bks,b.ep<=1000) (hms : ∀ b ∈ bks,∃ o k cap,b.m = .slice o k cap) (r : ReadsR 5 bookC w.heap.size w vb bks) (hok : opOk ⟨3,nm,ot,at_,va,ep⟩=true) :
    Calls Tryz.prog 207 #[vb,.agg #[.int .i64 3,.string nm,.string ot,.int .i64 at_,.int .i64 va,.int .i64 ep]] w fun e w'=>e = .returned (refErr ad (za5 (bks.map Bk.pb) ⟨3,nm,ot,at_,va,ep⟩))/\Below w.heap.size w w':=by
  obtain ⟨ob,cpb,hvb,mb,-,-⟩:=id r;subst hvb;unfold maxLen at mb;obtain ⟨W0,hW0,k0,d0,z0⟩:=zb4 w #[.int .i64 3,.string nm,.string ot,.int .i64 at_,.int .i64 va,.int .i64 ep] 37;have HW0 : Hid (W0 = _):=hW0;have HMS : Hid _:=hms;have r0:=(r.below d0).mono d0.size;have hv0:=hv.below d0;have p1:=za0 k0 1;have hFl:=zde bks nm
  obtain ⟨F,hF⟩ : ∃ F,zag bks nm=F:=⟨_,rfl⟩
  have HFB : Hid (zag bks nm=F):=hF;have HFP : Hid (findP (bks.map Bk.pb) nm=F):=by rw [Hid,<- zdb];exact hF
  have HBK : Hid (0<=F->zau (bks.map Bk.pb) F=(bkAt bks F).pb):=fun h=>zeb bks F (by omega)
  have hform:=zcz bks F hms;rw [hF] at hFl;clear hW0 z0 r hv hms hF
  go_enter Tryz.func207,Tryz.ntmps207
  go_wp2_with fail
  rw [<- HW0.out];clear HW0 p1;refine (zal _ bks nm _ HMS.out r0).mono ?_;rw [HFB.out];rintro e w1 ⟨rfl,b1⟩;replace k0:=kb0 b1 k0;replace d0:=za1 d0 b1;replace r0:=(r0.below b1).mono b1.size;replace hv0:=hv0.below b1;clear b1
  go_wp2_with fail
  refine (zch _ bks F _ hFl HMS.out r0).mono ?_;rintro e w2 ⟨rfl,b2⟩;replace k0:=kb0 b2 k0;replace d0:=za1 d0 b2;replace r0:=(r0.below b2).mono b2.size;replace hv0:=hv0.below b2;clear b2
  obtain ⟨x,hx⟩ : ∃ x,bkAt bks F=x:=⟨_,rfl⟩
  rw [hx] at HBK hform ⊢;clear hx;obtain ⟨xn,xs,xm,xr,xf,xe⟩:=x;obtain ⟨ox,kx,cx,hxm⟩:=hform;simp only at hxm;subst hxm;simp only [Bk.pb] at HBK;obtain ⟨W3,hW3,k6,d3,z3⟩:=zb4 w2 #[.string xn,.int .i64 xs,.slice ox kx cx,.bool xf,.int .i64 xe] 117;have HW3 : Hid (W3 = _):=hW3;replace k0:=kb0 d3 k0;replace d0:=za1 d0 d3;replace r0:=(r0.below d3).mono d3.size;replace hv0:=hv0.below d3;obtain ⟨p0,p1,p2,p3,p4,p5⟩:=cq6 k0;rw [hW3] at p0 p1 p2 p3 p4 p5;clear hW3 z3 d3;simp only [bookC]
  go_wp2_with fail
  rw [<- HW3.out];clear HW3 p0 p1 p2 p3 p4 p5;refine (zbr 3 nm ot at_ va ep _ hn ho (by unfold I64;omega) fa fv fe).mono ?_;rw [hok];rintro e w4 ⟨rfl,b4⟩;replace k0:=kb0 b4 k0;replace k6:=kb0 b4 k6;replace d0:=za1 d0 b4;replace r0:=(r0.below b4).mono b4.size;replace hv0:=hv0.below b4;clear b4;have HLN : Hid ((bks.map Bk.pb).length=bks.length):=List.length_map _
  obtain ⟨bs,hbs⟩ : ∃ bs,bks.map Bk.pb=bs:=⟨_,rfl⟩
  have HBS : Hid (bks.map Bk.pb=bs):=hbs;rw [hbs] at HFP HBK HLN;clear hbs;have M : ∀ w : World,Calls Tryz.prog 229 #[.int .i64 3] w fun e w'=>e = .returned (.bool false)/\w'=w:=fun w=>zd9 3 (by omega) w
  have E : ∀ w : World,Calls Tryz.prog 231 #[.int .i64 3] w fun e w'=>e = .returned (.bool true)/\w'=w:=fun w=>zbq 3 (by omega) w
  have C : ∀ w : World,Calls Tryz.prog 232 #[.int .i64 3] w fun e w'=>e = .returned (.bool true)/\w'=w:=fun w=>zbf 3 (by omega) w
  have P : ∀ w : World,Calls Tryz.prog 233 #[.int .i64 3] w fun e w'=>e = .returned (.bool true)/\w'=w:=fun w=>zbx 3 (by omega) w
  obtain ⟨p0,p1,p2,p3,p4,p5⟩:=cq6 k0;have q1:=za0 k6 1;have q3:=za0 k6 3;have q4:=za0 k6 4;have g2:=hv0.cell 3 (by decide);have g4:=hv0.cell 5 (by decide);have g5:=hv0.cell 6 (by decide);have g6:=hv0.cell 7 (by decide);by_cases h2 : F < 0
  · skip
    have HV : Hid (refErr ad (za5 bs ⟨3,nm,ot,at_,va,ep⟩) = .iface 218 (.agg #[.int .i64 2,.iface 334 (.pointer (some (ad 3)))])):=by
      have e1 : za5 bs ⟨3,nm,ot,at_,va,ep⟩=2:=by rw [zcy 3 (.inr rfl),HFP.out,if_pos (by omega)]
      rw [e1];rfl
    clear HFP HFB HBK
    go_wp2_with (first | (go_at_call 229;refine (M _).mono ?_;rintro e w' ⟨rfl,rfl⟩) | (go_at_call 231;refine (E _).mono ?_;rintro e w' ⟨rfl,rfl⟩) | (go_at_call 232;refine (C _).mono ?_;rintro e w' ⟨rfl,rfl⟩) | (go_at_call 233;refine (P _).mono ?_;rintro e w' ⟨rfl,rfl⟩))
    go_ret;exact ⟨zb7 (by rw [HBS.out];exact HV.out.symm),d0⟩
  by_cases h4 : ep < xe
  · skip
    have HV : Hid (refErr ad (za5 bs ⟨3,nm,ot,at_,va,ep⟩) = .iface 218 (.agg #[.int .i64 4,.iface 334 (.pointer (some (ad 5)))])):=by
      have e1 : za5 bs ⟨3,nm,ot,at_,va,ep⟩=4:=by rw [zcy 3 (.inr rfl),HFP.out,if_neg (by omega),HBK.out (by omega),if_pos (show ep < xe by omega)]
      rw [e1];rfl
    clear HFP HFB HBK
    go_wp2_with (first | (go_at_call 229;refine (M _).mono ?_;rintro e w' ⟨rfl,rfl⟩) | (go_at_call 231;refine (E _).mono ?_;rintro e w' ⟨rfl,rfl⟩) | (go_at_call 232;refine (C _).mono ?_;rintro e w' ⟨rfl,rfl⟩) | (go_at_call 233;refine (P _).mono ?_;rintro e w' ⟨rfl,rfl⟩))
    go_ret;exact ⟨zb7 (by rw [HBS.out];exact HV.out.symm),d0⟩
  cases xf
  case true =>
    have HV : Hid (refErr ad (za5 bs ⟨3,nm,ot,at_,va,ep⟩) = .iface 218 (.agg #[.int .i64 5,.iface 334 (.pointer (some (ad 6)))])):=by
      have e1 : za5 bs ⟨3,nm,ot,at_,va,ep⟩=5:=by rw [zcy 3 (.inr rfl),HFP.out,if_neg (by omega),HBK.out (by omega),if_neg (show ¬ ep < xe by omega),if_pos rfl]
      rw [e1];rfl
    clear HFP HFB HBK
    go_wp2_with (first | (go_at_call 229;refine (M _).mono ?_;rintro e w' ⟨rfl,rfl⟩) | (go_at_call 231;refine (E _).mono ?_;rintro e w' ⟨rfl,rfl⟩) | (go_at_call 232;refine (C _).mono ?_;rintro e w' ⟨rfl,rfl⟩) | (go_at_call 233;refine (P _).mono ?_;rintro e w' ⟨rfl,rfl⟩))
    go_ret;exact ⟨zb7 (by rw [HBS.out];exact HV.out.symm),d0⟩
  by_cases h6 : xs<=at_
  · skip
    have HV : Hid (refErr ad (za5 bs ⟨3,nm,ot,at_,va,ep⟩) = .iface 218 (.agg #[.int .i64 6,.iface 334 (.pointer (some (ad 7)))])):=by
      have e1 : za5 bs ⟨3,nm,ot,at_,va,ep⟩=6:=by rw [zcy 3 (.inr rfl),HFP.out,if_neg (by omega),HBK.out (by omega),if_neg (show ¬ ep < xe by omega),if_neg (show ¬ false=true from Bool.false_ne_true),if_pos (show xs<=at_ by omega)]
      rw [e1];rfl
    clear HFP HFB HBK
    go_wp2_with (first | (go_at_call 229;refine (M _).mono ?_;rintro e w' ⟨rfl,rfl⟩) | (go_at_call 231;refine (E _).mono ?_;rintro e w' ⟨rfl,rfl⟩) | (go_at_call 232;refine (C _).mono ?_;rintro e w' ⟨rfl,rfl⟩) | (go_at_call 233;refine (P _).mono ?_;rintro e w' ⟨rfl,rfl⟩))
    go_ret;exact ⟨zb7 (by rw [HBS.out];exact HV.out.symm),d0⟩
  have hA2 : ¬ xs<=at_:=h6
  have HV : Hid (refErr ad (za5 bs ⟨3,nm,ot,at_,va,ep⟩) = .nilIface):=by
    have e1 : za5 bs ⟨3,nm,ot,at_,va,ep⟩=0:=by rw [zcy 3 (.inr rfl),HFP.out,if_neg (by omega),HBK.out (by omega),if_neg (show ¬ ep < xe by omega),if_neg (show ¬ false=true from Bool.false_ne_true),if_neg (show ¬ xs<=at_ by omega)]
    rw [e1];rfl
  clear HFP HFB HBK
  go_wp2_with (first | (go_at_call 229;refine (M _).mono ?_;rintro e w' ⟨rfl,rfl⟩) | (go_at_call 231;refine (E _).mono ?_;rintro e w' ⟨rfl,rfl⟩) | (go_at_call 232;refine (C _).mono ?_;rintro e w' ⟨rfl,rfl⟩) | (go_at_call 233;refine (P _).mono ?_;rintro e w' ⟨rfl,rfl⟩))
  go_ret;exact ⟨zb7 (by rw [HBS.out];exact HV.out.symm),d0⟩
set_option maxRecDepth 100000 in
theorem zxx (vb : Value) (bks : List Bk) (nm ot : ByteArray) (at_ va ep : Int) (w : World) (ad : Nat->Addr) (hv : Vars w ad) (hn : nm.size<=maxLen) (ho : ot.size<=maxLen) (fa : I64 at_) (fv : I64 va) (fe : I64 ep) (hlen : bks.length<=6) (hep : ∀ b ∈ bks,b.ep<=1000) (hms : ∀ b ∈ bks,∃ o k cap,b.m = .slice o k cap) (r : ReadsR 5 bookC w.heap.size w vb bks) (hok : opOk ⟨4,nm,ot,at_,va,ep⟩=true) :
    Calls Tryz.prog 207 #[vb,.agg #[.int .i64 4,.string nm,.string ot,.int .i64 at_,.int .i64 va,.int .i64 ep]] w fun e w'=>e = .returned (refErr ad (za5 (bks.map Bk.pb) ⟨4,nm,ot,at_,va,ep⟩))/\Below w.heap.size w w':=by
  obtain ⟨ob,cpb,hvb,mb,-,-⟩:=id r;subst hvb;unfold maxLen at mb;obtain ⟨W0,hW0,k0,d0,z0⟩:=zb4 w #[.int .i64 4,.string nm,.string ot,.int .i64 at_,.int .i64 va,.int .i64 ep] 37;have HW0 : Hid (W0 = _):=hW0;have HMS : Hid _:=hms;have r0:=(r.below d0).mono d0.size;have hv0:=hv.below d0;have p1:=za0 k0 1;have hFl:=zde bks nm
  obtain ⟨F,hF⟩ : ∃ F,zag bks nm=F:=⟨_,rfl⟩
  have HFB : Hid (zag bks nm=F):=hF;have HFP : Hid (findP (bks.map Bk.pb) nm=F):=by rw [Hid,<- zdb];exact hF
  have HBK : Hid (0<=F->zau (bks.map Bk.pb) F=(bkAt bks F).pb):=fun h=>zeb bks F (by omega)
  have hform:=zcz bks F hms;rw [hF] at hFl;clear hW0 z0 r hv hms hF
  go_enter Tryz.func207,Tryz.ntmps207
  go_wp2_with fail
  rw [<- HW0.out];clear HW0 p1;refine (zal _ bks nm _ HMS.out r0).mono ?_;rw [HFB.out];rintro e w1 ⟨rfl,b1⟩;replace k0:=kb0 b1 k0;replace d0:=za1 d0 b1;replace r0:=(r0.below b1).mono b1.size;replace hv0:=hv0.below b1;clear b1
  go_wp2_with fail
  refine (zch _ bks F _ hFl HMS.out r0).mono ?_;rintro e w2 ⟨rfl,b2⟩;replace k0:=kb0 b2 k0;replace d0:=za1 d0 b2;replace r0:=(r0.below b2).mono b2.size;replace hv0:=hv0.below b2;clear b2
  obtain ⟨x,hx⟩ : ∃ x,bkAt bks F=x:=⟨_,rfl⟩
  rw [hx] at HBK hform ⊢;clear hx;obtain ⟨xn,xs,xm,xr,xf,xe⟩:=x;obtain ⟨ox,kx,cx,hxm⟩:=hform;simp only at hxm;subst hxm;simp only [Bk.pb] at HBK;obtain ⟨W3,hW3,k6,d3,z3⟩:=zb4 w2 #[.string xn,.int .i64 xs,.slice ox kx cx,.bool xf,.int .i64 xe] 117;have HW3 : Hid (W3 = _):=hW3;replace k0:=kb0 d3 k0;replace d0:=za1 d0 d3;replace r0:=(r0.below d3).mono d3.size;replace hv0:=hv0.below d3;obtain ⟨p0,p1,p2,p3,p4,p5⟩:=cq6 k0;rw [hW3] at p0 p1 p2 p3 p4 p5;clear hW3 z3 d3;simp only [bookC]
  go_wp2_with fail
  rw [<- HW3.out];clear HW3 p0 p1 p2 p3 p4 p5;refine (zbr 4 nm ot at_ va ep _ hn ho (by unfold I64;omega) fa fv fe).mono ?_;rw [hok];rintro e w4 ⟨rfl,b4⟩;replace k0:=kb0 b4 k0;replace k6:=kb0 b4 k6;replace d0:=za1 d0 b4;replace r0:=(r0.below b4).mono b4.size;replace hv0:=hv0.below b4;clear b4;have HLN : Hid ((bks.map Bk.pb).length=bks.length):=List.length_map _
  obtain ⟨bs,hbs⟩ : ∃ bs,bks.map Bk.pb=bs:=⟨_,rfl⟩
  have HBS : Hid (bks.map Bk.pb=bs):=hbs;have HFO : Hid (zag bks ot=findP (bks.map Bk.pb) ot):=zdb bks ot;rw [hbs] at HFP HBK HLN HFO;clear hbs;have M : ∀ w : World,Calls Tryz.prog 229 #[.int .i64 4] w fun e w'=>e = .returned (.bool true)/\w'=w:=fun w=>zd9 4 (by omega) w
  have E : ∀ w : World,Calls Tryz.prog 231 #[.int .i64 4] w fun e w'=>e = .returned (.bool false)/\w'=w:=fun w=>zbq 4 (by omega) w
  have C : ∀ w : World,Calls Tryz.prog 232 #[.int .i64 4] w fun e w'=>e = .returned (.bool false)/\w'=w:=fun w=>zbf 4 (by omega) w
  have P : ∀ w : World,Calls Tryz.prog 233 #[.int .i64 4] w fun e w'=>e = .returned (.bool false)/\w'=w:=fun w=>zbx 4 (by omega) w
  obtain ⟨p0,p1,p2,p3,p4,p5⟩:=cq6 k0;have q1:=za0 k6 1;have q3:=za0 k6 3;have q4:=za0 k6 4;have g2:=hv0.cell 3 (by decide);have g3:=hv0.cell 4 (by decide);have g7:=hv0.cell 8 (by decide);by_cases h2 : F < 0
  · skip
    have HV : Hid (refErr ad (za5 bs ⟨4,nm,ot,at_,va,ep⟩) = .iface 218 (.agg #[.int .i64 2,.iface 334 (.pointer (some (ad 3)))])):=by
      have e1 : za5 bs ⟨4,nm,ot,at_,va,ep⟩=2:=by rw [zd7 4 (.inl rfl),HFP.out,if_pos (by omega)]
      rw [e1];rfl
    clear HFP HFB HBK
    go_wp2_with (first | (go_at_call 229;refine (M _).mono ?_;rintro e w' ⟨rfl,rfl⟩) | (go_at_call 231;refine (E _).mono ?_;rintro e w' ⟨rfl,rfl⟩) | (go_at_call 232;refine (C _).mono ?_;rintro e w' ⟨rfl,rfl⟩) | (go_at_call 233;refine (P _).mono ?_;rintro e w' ⟨rfl,rfl⟩))
    go_ret;exact ⟨zb7 (by rw [HBS.out];exact HV.out.symm),d0⟩
  go_wp2_with (first | (go_at_call 229;refine (M _).mono ?_;rintro e w' ⟨rfl,rfl⟩) | (go_at_call 231;refine (E _).mono ?_;rintro e w' ⟨rfl,rfl⟩) | (go_at_call 232;refine (C _).mono ?_;rintro e w' ⟨rfl,rfl⟩) | (go_at_call 233;refine (P _).mono ?_;rintro e w' ⟨rfl,rfl⟩))
  refine (zgp 4 (by omega) nm ot at_ va ep _).mono ?_;rintro e w5 ⟨rfl,b5⟩;replace k0:=kb0 b5 k0;replace k6:=kb0 b5 k6;replace d0:=za1 d0 b5;replace r0:=(r0.below b5).mono b5.size;replace hv0:=hv0.below b5;clear p0 p1 p2 p3 p4 p5 q1 q3 q4 g2 g3 g7 b5
  go_wp2_with fail
  refine (zal _ bks ot _ HMS.out r0).mono ?_
  obtain ⟨G,hG⟩ : ∃ G,zag bks ot=G:=⟨_,rfl⟩
  have HNP : Hid (findP bs ot=G):=by rw [Hid,<- HFO.out];exact hG
  rw [hG];clear hG;rintro e w6 ⟨rfl,b6⟩;replace k0:=kb0 b6 k0;replace k6:=kb0 b6 k6;replace d0:=za1 d0 b6;replace r0:=(r0.below b6).mono b6.size;replace hv0:=hv0.below b6;clear b6;obtain ⟨p0,p1,p2,p3,p4,p5⟩:=cq6 k0;have q1:=za0 k6 1;have q3:=za0 k6 3;have q4:=za0 k6 4;have g2:=hv0.cell 3 (by decide);have g3:=hv0.cell 4 (by decide);have g7:=hv0.cell 8 (by decide);by_cases h3 : 0<=G
  · skip
    have HV : Hid (refErr ad (za5 bs ⟨4,nm,ot,at_,va,ep⟩) = .iface 218 (.agg #[.int .i64 3,.iface 334 (.pointer (some (ad 4)))])):=by
      have e1 : za5 bs ⟨4,nm,ot,at_,va,ep⟩=3:=by rw [zd7 4 (.inl rfl),HFP.out,if_neg (by omega),HNP.out,if_pos (by omega)]
      rw [e1];rfl
    clear HFP HFB HBK
    go_wp2_with (first | (go_at_call 229;refine (M _).mono ?_;rintro e w' ⟨rfl,rfl⟩) | (go_at_call 231;refine (E _).mono ?_;rintro e w' ⟨rfl,rfl⟩) | (go_at_call 232;refine (C _).mono ?_;rintro e w' ⟨rfl,rfl⟩) | (go_at_call 233;refine (P _).mono ?_;rintro e w' ⟨rfl,rfl⟩))
    go_ret;exact ⟨zb7 (by rw [HBS.out];exact HV.out.symm),d0⟩
  by_cases h7 : (6 : Int)<=(bks.length : Int)
  · skip
    have hl6 : bks.length=6:=by omega
    have HV : Hid (refErr ad (za5 bs ⟨4,nm,ot,at_,va,ep⟩) = .iface 218 (.agg #[.int .i64 7,.iface 334 (.pointer (some (ad 8)))])):=by
      have e1 : za5 bs ⟨4,nm,ot,at_,va,ep⟩=7:=by rw [zd7 4 (.inl rfl),HFP.out,if_neg (by omega),HNP.out,if_neg (by omega),HLN.out,if_pos (by omega)]
      rw [e1];rfl
    clear HFP HFB HBK
    go_wp2_with (first | (go_at_call 229;refine (M _).mono ?_;rintro e w' ⟨rfl,rfl⟩) | (go_at_call 231;refine (E _).mono ?_;rintro e w' ⟨rfl,rfl⟩) | (go_at_call 232;refine (C _).mono ?_;rintro e w' ⟨rfl,rfl⟩) | (go_at_call 233;refine (P _).mono ?_;rintro e w' ⟨rfl,rfl⟩))
    go_ret;exact ⟨zb7 (by rw [HBS.out];exact HV.out.symm),d0⟩
  have hl6 : ¬ bks.length=6:=by omega
  have HV : Hid (refErr ad (za5 bs ⟨4,nm,ot,at_,va,ep⟩) = .nilIface):=by
    have e1 : za5 bs ⟨4,nm,ot,at_,va,ep⟩=0:=by rw [zd7 4 (.inl rfl),HFP.out,if_neg (by omega),HNP.out,if_neg (by omega),HLN.out,if_neg (by omega)]
    rw [e1];rfl
  clear HFP HFB HBK
  go_wp2_with (first | (go_at_call 229;refine (M _).mono ?_;rintro e w' ⟨rfl,rfl⟩) | (go_at_call 231;refine (E _).mono ?_;rintro e w' ⟨rfl,rfl⟩) | (go_at_call 232;refine (C _).mono ?_;rintro e w' ⟨rfl,rfl⟩) | (go_at_call 233;refine (P _).mono ?_;rintro e w' ⟨rfl,rfl⟩))
  go_ret;exact ⟨zb7 (by rw [HBS.out];exact HV.out.symm),d0⟩
set_option maxRecDepth 100000 in
theorem zxy (vb : Value) (bks : List Bk) (nm ot : ByteArray) (at_ va ep : Int) (w : World) (ad : Nat->Addr) (hv : Vars w ad) (hn : nm.size<=maxLen) (ho : ot.size<=maxLen) (fa : I64 at_) (fv : I64 va) (fe : I64 ep) (hlen : bks.length<=6) (hep : ∀ b ∈ bks,b.ep<=1000) (hms : ∀ b ∈ bks,∃ o k cap,b.m = .slice o k cap) (r : ReadsR 5 bookC w.heap.size w vb bks) (hok : opOk ⟨5,nm,ot,at_,va,ep⟩=true) :
    Calls Tryz.prog 207 #[vb,.agg #[.int .i64 5,.string nm,.string ot,.int .i64 at_,.int .i64 va,.int .i64 ep]] w fun e w'=>e = .returned (refErr ad (za5 (bks.map Bk.pb) ⟨5,nm,ot,at_,va,ep⟩))/\Below w.heap.size w w':=by
  obtain ⟨ob,cpb,hvb,mb,-,-⟩:=id r;subst hvb;unfold maxLen at mb;obtain ⟨W0,hW0,k0,d0,z0⟩:=zb4 w #[.int .i64 5,.string nm,.string ot,.int .i64 at_,.int .i64 va,.int .i64 ep] 37;have HW0 : Hid (W0 = _):=hW0;have HMS : Hid _:=hms;have r0:=(r.below d0).mono d0.size;have hv0:=hv.below d0;have p1:=za0 k0 1;have hFl:=zde bks nm
  obtain ⟨F,hF⟩ : ∃ F,zag bks nm=F:=⟨_,rfl⟩
  have HFB : Hid (zag bks nm=F):=hF;have HFP : Hid (findP (bks.map Bk.pb) nm=F):=by rw [Hid,<- zdb];exact hF
  have HBK : Hid (0<=F->zau (bks.map Bk.pb) F=(bkAt bks F).pb):=fun h=>zeb bks F (by omega)
  have hform:=zcz bks F hms;rw [hF] at hFl;clear hW0 z0 r hv hms hF
  go_enter Tryz.func207,Tryz.ntmps207
  go_wp2_with fail
  rw [<- HW0.out];clear HW0 p1;refine (zal _ bks nm _ HMS.out r0).mono ?_;rw [HFB.out];rintro e w1 ⟨rfl,b1⟩;replace k0:=kb0 b1 k0;replace d0:=za1 d0 b1;replace r0:=(r0.below b1).mono b1.size;replace hv0:=hv0.below b1;clear b1
  go_wp2_with fail
  refine (zch _ bks F _ hFl HMS.out r0).mono ?_;rintro e w2 ⟨rfl,b2⟩;replace k0:=kb0 b2 k0;replace d0:=za1 d0 b2;replace r0:=(r0.below b2).mono b2.size;replace hv0:=hv0.below b2;clear b2
  obtain ⟨x,hx⟩ : ∃ x,bkAt bks F=x:=⟨_,rfl⟩
  rw [hx] at HBK hform ⊢;clear hx;obtain ⟨xn,xs,xm,xr,xf,xe⟩:=x;obtain ⟨ox,kx,cx,hxm⟩:=hform;simp only at hxm;subst hxm;simp only [Bk.pb] at HBK;obtain ⟨W3,hW3,k6,d3,z3⟩:=zb4 w2 #[.string xn,.int .i64 xs,.slice ox kx cx,.bool xf,.int .i64 xe] 117;have HW3 : Hid (W3 = _):=hW3;replace k0:=kb0 d3 k0;replace d0:=za1 d0 d3;replace r0:=(r0.below d3).mono d3.size;replace hv0:=hv0.below d3;obtain ⟨p0,p1,p2,p3,p4,p5⟩:=cq6 k0;rw [hW3] at p0 p1 p2 p3 p4 p5;clear hW3 z3 d3;simp only [bookC]
  go_wp2_with fail
  rw [<- HW3.out];clear HW3 p0 p1 p2 p3 p4 p5;refine (zbr 5 nm ot at_ va ep _ hn ho (by unfold I64;omega) fa fv fe).mono ?_;rw [hok];rintro e w4 ⟨rfl,b4⟩;replace k0:=kb0 b4 k0;replace k6:=kb0 b4 k6;replace d0:=za1 d0 b4;replace r0:=(r0.below b4).mono b4.size;replace hv0:=hv0.below b4;clear b4;have HLN : Hid ((bks.map Bk.pb).length=bks.length):=List.length_map _
  obtain ⟨bs,hbs⟩ : ∃ bs,bks.map Bk.pb=bs:=⟨_,rfl⟩
  have HBS : Hid (bks.map Bk.pb=bs):=hbs;have HFO : Hid (zag bks ot=findP (bks.map Bk.pb) ot):=zdb bks ot;rw [hbs] at HFP HBK HLN HFO;clear hbs;have M : ∀ w : World,Calls Tryz.prog 229 #[.int .i64 5] w fun e w'=>e = .returned (.bool true)/\w'=w:=fun w=>zd9 5 (by omega) w
  have E : ∀ w : World,Calls Tryz.prog 231 #[.int .i64 5] w fun e w'=>e = .returned (.bool false)/\w'=w:=fun w=>zbq 5 (by omega) w
  have C : ∀ w : World,Calls Tryz.prog 232 #[.int .i64 5] w fun e w'=>e = .returned (.bool false)/\w'=w:=fun w=>zbf 5 (by omega) w
  have P : ∀ w : World,Calls Tryz.prog 233 #[.int .i64 5] w fun e w'=>e = .returned (.bool false)/\w'=w:=fun w=>zbx 5 (by omega) w
  obtain ⟨p0,p1,p2,p3,p4,p5⟩:=cq6 k0;have q1:=za0 k6 1;have q3:=za0 k6 3;have q4:=za0 k6 4;have g2:=hv0.cell 3 (by decide);have g3:=hv0.cell 4 (by decide);have g7:=hv0.cell 8 (by decide);by_cases h2 : F < 0
  · skip
    have HV : Hid (refErr ad (za5 bs ⟨5,nm,ot,at_,va,ep⟩) = .iface 218 (.agg #[.int .i64 2,.iface 334 (.pointer (some (ad 3)))])):=by
      have e1 : za5 bs ⟨5,nm,ot,at_,va,ep⟩=2:=by rw [zd7 5 (.inr rfl),HFP.out,if_pos (by omega)]
      rw [e1];rfl
    clear HFP HFB HBK
    go_wp2_with (first | (go_at_call 229;refine (M _).mono ?_;rintro e w' ⟨rfl,rfl⟩) | (go_at_call 231;refine (E _).mono ?_;rintro e w' ⟨rfl,rfl⟩) | (go_at_call 232;refine (C _).mono ?_;rintro e w' ⟨rfl,rfl⟩) | (go_at_call 233;refine (P _).mono ?_;rintro e w' ⟨rfl,rfl⟩))
    go_ret;exact ⟨zb7 (by rw [HBS.out];exact HV.out.symm),d0⟩
  go_wp2_with (first | (go_at_call 229;refine (M _).mono ?_;rintro e w' ⟨rfl,rfl⟩) | (go_at_call 231;refine (E _).mono ?_;rintro e w' ⟨rfl,rfl⟩) | (go_at_call 232;refine (C _).mono ?_;rintro e w' ⟨rfl,rfl⟩) | (go_at_call 233;refine (P _).mono ?_;rintro e w' ⟨rfl,rfl⟩))
  refine (zgp 5 (by omega) nm ot at_ va ep _).mono ?_;rintro e w5 ⟨rfl,b5⟩;replace k0:=kb0 b5 k0;replace k6:=kb0 b5 k6;replace d0:=za1 d0 b5;replace r0:=(r0.below b5).mono b5.size;replace hv0:=hv0.below b5;clear p0 p1 p2 p3 p4 p5 q1 q3 q4 g2 g3 g7 b5
  go_wp2_with fail
  refine (zal _ bks ot _ HMS.out r0).mono ?_
  obtain ⟨G,hG⟩ : ∃ G,zag bks ot=G:=⟨_,rfl⟩
  have HNP : Hid (findP bs ot=G):=by rw [Hid,<- HFO.out];exact hG
  rw [hG];clear hG;rintro e w6 ⟨rfl,b6⟩;replace k0:=kb0 b6 k0;replace k6:=kb0 b6 k6;replace d0:=za1 d0 b6;replace r0:=(r0.below b6).mono b6.size;replace hv0:=hv0.below b6;clear b6;obtain ⟨p0,p1,p2,p3,p4,p5⟩:=cq6 k0;have q1:=za0 k6 1;have q3:=za0 k6 3;have q4:=za0 k6 4;have g2:=hv0.cell 3 (by decide);have g3:=hv0.cell 4 (by decide);have g7:=hv0.cell 8 (by decide);by_cases h3 : 0<=G
  · skip
    have HV : Hid (refErr ad (za5 bs ⟨5,nm,ot,at_,va,ep⟩) = .iface 218 (.agg #[.int .i64 3,.iface 334 (.pointer (some (ad 4)))])):=by
      have e1 : za5 bs ⟨5,nm,ot,at_,va,ep⟩=3:=by rw [zd7 5 (.inr rfl),HFP.out,if_neg (by omega),HNP.out,if_pos (by omega)]
      rw [e1];rfl
    clear HFP HFB HBK
    go_wp2_with (first | (go_at_call 229;refine (M _).mono ?_;rintro e w' ⟨rfl,rfl⟩) | (go_at_call 231;refine (E _).mono ?_;rintro e w' ⟨rfl,rfl⟩) | (go_at_call 232;refine (C _).mono ?_;rintro e w' ⟨rfl,rfl⟩) | (go_at_call 233;refine (P _).mono ?_;rintro e w' ⟨rfl,rfl⟩))
    go_ret;exact ⟨zb7 (by rw [HBS.out];exact HV.out.symm),d0⟩
  by_cases h7 : (6 : Int)<=(bks.length : Int)
  · skip
    have hl6 : bks.length=6:=by omega
    have HV : Hid (refErr ad (za5 bs ⟨5,nm,ot,at_,va,ep⟩) = .iface 218 (.agg #[.int .i64 7,.iface 334 (.pointer (some (ad 8)))])):=by
      have e1 : za5 bs ⟨5,nm,ot,at_,va,ep⟩=7:=by rw [zd7 5 (.inr rfl),HFP.out,if_neg (by omega),HNP.out,if_neg (by omega),HLN.out,if_pos (by omega)]
      rw [e1];rfl
    clear HFP HFB HBK
    go_wp2_with (first | (go_at_call 229;refine (M _).mono ?_;rintro e w' ⟨rfl,rfl⟩) | (go_at_call 231;refine (E _).mono ?_;rintro e w' ⟨rfl,rfl⟩) | (go_at_call 232;refine (C _).mono ?_;rintro e w' ⟨rfl,rfl⟩) | (go_at_call 233;refine (P _).mono ?_;rintro e w' ⟨rfl,rfl⟩))
    go_ret;exact ⟨zb7 (by rw [HBS.out];exact HV.out.symm),d0⟩
  have hl6 : ¬ bks.length=6:=by omega
  have HV : Hid (refErr ad (za5 bs ⟨5,nm,ot,at_,va,ep⟩) = .nilIface):=by
    have e1 : za5 bs ⟨5,nm,ot,at_,va,ep⟩=0:=by rw [zd7 5 (.inr rfl),HFP.out,if_neg (by omega),HNP.out,if_neg (by omega),HLN.out,if_neg (by omega)]
    rw [e1];rfl
  clear HFP HFB HBK
  go_wp2_with (first | (go_at_call 229;refine (M _).mono ?_;rintro e w' ⟨rfl,rfl⟩) | (go_at_call 231;refine (E _).mono ?_;rintro e w' ⟨rfl,rfl⟩) | (go_at_call 232;refine (C _).mono ?_;rintro e w' ⟨rfl,rfl⟩) | (go_at_call 233;refine (P _).mono ?_;rintro e w' ⟨rfl,rfl⟩))
  go_ret;exact ⟨zb7 (by rw [HBS.out];exact HV.out.symm),d0⟩
set_option maxRecDepth 100000 in
theorem zxz (vb : Value) (bks : List Bk) (nm ot : ByteArray) (at_ va ep : Int) (w : World) (ad : Nat->Addr) (hv : Vars w ad) (hn : nm.size<=maxLen) (ho : ot.size<=maxLen) (fa : I64 at_) (fv : I64 va) (fe : I64 ep) (hlen : bks.length<=6) (hep : ∀ b ∈ bks,b.ep<=1000) (hms : ∀ b ∈ bks,∃ o k cap,b.m = .slice o k cap) (r : ReadsR 5 bookC w.heap.size w vb bks) (hok : opOk ⟨6,nm,ot,at_,va,ep⟩=true) :
    Calls Tryz.prog 207 #[vb,.agg #[.int .i64 6,.string nm,.string ot,.int .i64 at_,.int .i64 va,.int .i64 ep]] w fun e w'=>e = .returned (refErr ad (za5 (bks.map Bk.pb) ⟨6,nm,ot,at_,va,ep⟩))/\Below w.heap.size w w':=by
  obtain ⟨ob,cpb,hvb,mb,-,-⟩:=id r;subst hvb;unfold maxLen at mb;obtain ⟨W0,hW0,k0,d0,z0⟩:=zb4 w #[.int .i64 6,.string nm,.string ot,.int .i64 at_,.int .i64 va,.int .i64 ep] 37;have HW0 : Hid (W0 = _):=hW0;have HMS : Hid _:=hms;have r0:=(r.below d0).mono d0.size;have hv0:=hv.below d0;have p1:=za0 k0 1;have hFl:=zde bks nm
  obtain ⟨F,hF⟩ : ∃ F,zag bks nm=F:=⟨_,rfl⟩
  have HFB : Hid (zag bks nm=F):=hF;have HFP : Hid (findP (bks.map Bk.pb) nm=F):=by rw [Hid,<- zdb];exact hF
  have HBK : Hid (0<=F->zau (bks.map Bk.pb) F=(bkAt bks F).pb):=fun h=>zeb bks F (by omega)
  have hform:=zcz bks F hms;rw [hF] at hFl;clear hW0 z0 r hv hms hF
  go_enter Tryz.func207,Tryz.ntmps207
  go_wp2_with fail
  rw [<- HW0.out];clear HW0 p1;refine (zal _ bks nm _ HMS.out r0).mono ?_;rw [HFB.out];rintro e w1 ⟨rfl,b1⟩;replace k0:=kb0 b1 k0;replace d0:=za1 d0 b1;replace r0:=(r0.below b1).mono b1.size;replace hv0:=hv0.below b1;clear b1
  go_wp2_with fail
  refine (zch _ bks F _ hFl HMS.out r0).mono ?_;rintro e w2 ⟨rfl,b2⟩;replace k0:=kb0 b2 k0;replace d0:=za1 d0 b2;replace r0:=(r0.below b2).mono b2.size;replace hv0:=hv0.below b2;clear b2
  obtain ⟨x,hx⟩ : ∃ x,bkAt bks F=x:=⟨_,rfl⟩
  rw [hx] at HBK hform ⊢;clear hx;obtain ⟨xn,xs,xm,xr,xf,xe⟩:=x;obtain ⟨ox,kx,cx,hxm⟩:=hform;simp only at hxm;subst hxm;simp only [Bk.pb] at HBK;obtain ⟨W3,hW3,k6,d3,z3⟩:=zb4 w2 #[.string xn,.int .i64 xs,.slice ox kx cx,.bool xf,.int .i64 xe] 117;have HW3 : Hid (W3 = _):=hW3;replace k0:=kb0 d3 k0;replace d0:=za1 d0 d3;replace r0:=(r0.below d3).mono d3.size;replace hv0:=hv0.below d3;obtain ⟨p0,p1,p2,p3,p4,p5⟩:=cq6 k0;rw [hW3] at p0 p1 p2 p3 p4 p5;clear hW3 z3 d3;simp only [bookC]
  go_wp2_with fail
  rw [<- HW3.out];clear HW3 p0 p1 p2 p3 p4 p5;refine (zbr 6 nm ot at_ va ep _ hn ho (by unfold I64;omega) fa fv fe).mono ?_;rw [hok];rintro e w4 ⟨rfl,b4⟩;replace k0:=kb0 b4 k0;replace k6:=kb0 b4 k6;replace d0:=za1 d0 b4;replace r0:=(r0.below b4).mono b4.size;replace hv0:=hv0.below b4;clear b4;have HLN : Hid ((bks.map Bk.pb).length=bks.length):=List.length_map _
  obtain ⟨bs,hbs⟩ : ∃ bs,bks.map Bk.pb=bs:=⟨_,rfl⟩
  have HBS : Hid (bks.map Bk.pb=bs):=hbs;rw [hbs] at HFP HBK HLN;clear hbs;have M : ∀ w : World,Calls Tryz.prog 229 #[.int .i64 6] w fun e w'=>e = .returned (.bool false)/\w'=w:=fun w=>zd9 6 (by omega) w
  have E : ∀ w : World,Calls Tryz.prog 231 #[.int .i64 6] w fun e w'=>e = .returned (.bool true)/\w'=w:=fun w=>zbq 6 (by omega) w
  have C : ∀ w : World,Calls Tryz.prog 232 #[.int .i64 6] w fun e w'=>e = .returned (.bool false)/\w'=w:=fun w=>zbf 6 (by omega) w
  have P : ∀ w : World,Calls Tryz.prog 233 #[.int .i64 6] w fun e w'=>e = .returned (.bool false)/\w'=w:=fun w=>zbx 6 (by omega) w
  obtain ⟨p0,p1,p2,p3,p4,p5⟩:=cq6 k0;have q1:=za0 k6 1;have q3:=za0 k6 3;have q4:=za0 k6 4;have g2:=hv0.cell 3 (by decide);have g4:=hv0.cell 5 (by decide);by_cases h2 : F < 0
  · skip
    have HV : Hid (refErr ad (za5 bs ⟨6,nm,ot,at_,va,ep⟩) = .iface 218 (.agg #[.int .i64 2,.iface 334 (.pointer (some (ad 3)))])):=by
      have e1 : za5 bs ⟨6,nm,ot,at_,va,ep⟩=2:=by rw [zlu,HFP.out,if_pos (by omega)]
      rw [e1];rfl
    clear HFP HFB HBK
    go_wp2_with (first | (go_at_call 229;refine (M _).mono ?_;rintro e w' ⟨rfl,rfl⟩) | (go_at_call 231;refine (E _).mono ?_;rintro e w' ⟨rfl,rfl⟩) | (go_at_call 232;refine (C _).mono ?_;rintro e w' ⟨rfl,rfl⟩) | (go_at_call 233;refine (P _).mono ?_;rintro e w' ⟨rfl,rfl⟩))
    go_ret;exact ⟨zb7 (by rw [HBS.out];exact HV.out.symm),d0⟩
  by_cases h4 : ep < xe
  · skip
    have HV : Hid (refErr ad (za5 bs ⟨6,nm,ot,at_,va,ep⟩) = .iface 218 (.agg #[.int .i64 4,.iface 334 (.pointer (some (ad 5)))])):=by
      have e1 : za5 bs ⟨6,nm,ot,at_,va,ep⟩=4:=by rw [zlu,HFP.out,if_neg (by omega),HBK.out (by omega),if_pos (show ep < xe by omega)]
      rw [e1];rfl
    clear HFP HFB HBK
    go_wp2_with (first | (go_at_call 229;refine (M _).mono ?_;rintro e w' ⟨rfl,rfl⟩) | (go_at_call 231;refine (E _).mono ?_;rintro e w' ⟨rfl,rfl⟩) | (go_at_call 232;refine (C _).mono ?_;rintro e w' ⟨rfl,rfl⟩) | (go_at_call 233;refine (P _).mono ?_;rintro e w' ⟨rfl,rfl⟩))
    go_ret;exact ⟨zb7 (by rw [HBS.out];exact HV.out.symm),d0⟩
  have HV : Hid (refErr ad (za5 bs ⟨6,nm,ot,at_,va,ep⟩) = .nilIface):=by
    have e1 : za5 bs ⟨6,nm,ot,at_,va,ep⟩=0:=by rw [zlu,HFP.out,if_neg (by omega),HBK.out (by omega),if_neg (show ¬ ep < xe by omega)]
    rw [e1];rfl
  clear HFP HFB HBK
  go_wp2_with (first | (go_at_call 229;refine (M _).mono ?_;rintro e w' ⟨rfl,rfl⟩) | (go_at_call 231;refine (E _).mono ?_;rintro e w' ⟨rfl,rfl⟩) | (go_at_call 232;refine (C _).mono ?_;rintro e w' ⟨rfl,rfl⟩) | (go_at_call 233;refine (P _).mono ?_;rintro e w' ⟨rfl,rfl⟩))
  go_ret;exact ⟨zb7 (by rw [HBS.out];exact HV.out.symm),d0⟩
set_option maxRecDepth 100000 in
theorem zy0 (vb : Value) (bks : List Bk) (nm ot : ByteArray) (at_ va ep : Int) (w : World) (ad : Nat->Addr) (hv : Vars w ad) (hn : nm.size<=maxLen) (ho : ot.size<=maxLen) (fa : I64 at_) (fv : I64 va) (fe : I64 ep) (hlen : bks.length<=6) (hep : ∀ b ∈ bks,b.ep<=1000) (hms : ∀ b ∈ bks,∃ o k cap,b.m = .slice o k cap) (r : ReadsR 5 bookC w.heap.size w vb bks) (hok : opOk ⟨7,nm,ot,at_,va,ep⟩=true) :
    Calls Tryz.prog 207 #[vb,.agg #[.int .i64 7,.string nm,.string ot,.int .i64 at_,.int .i64 va,.int .i64 ep]] w fun e w'=>e = .returned (refErr ad (za5 (bks.map Bk.pb) ⟨7,nm,ot,at_,va,ep⟩))/\Below w.heap.size w w':=by
  obtain ⟨ob,cpb,hvb,mb,-,-⟩:=id r;subst hvb;unfold maxLen at mb;obtain ⟨W0,hW0,k0,d0,z0⟩:=zb4 w #[.int .i64 7,.string nm,.string ot,.int .i64 at_,.int .i64 va,.int .i64 ep] 37;have HW0 : Hid (W0 = _):=hW0;have HMS : Hid _:=hms;have r0:=(r.below d0).mono d0.size;have hv0:=hv.below d0;have p1:=za0 k0 1;have hFl:=zde bks nm
  obtain ⟨F,hF⟩ : ∃ F,zag bks nm=F:=⟨_,rfl⟩
  have HFB : Hid (zag bks nm=F):=hF;have HFP : Hid (findP (bks.map Bk.pb) nm=F):=by rw [Hid,<- zdb];exact hF
  have HBK : Hid (0<=F->zau (bks.map Bk.pb) F=(bkAt bks F).pb):=fun h=>zeb bks F (by omega)
  have hform:=zcz bks F hms;rw [hF] at hFl;clear hW0 z0 r hv hms hF
  go_enter Tryz.func207,Tryz.ntmps207
  go_wp2_with fail
  rw [<- HW0.out];clear HW0 p1;refine (zal _ bks nm _ HMS.out r0).mono ?_;rw [HFB.out];rintro e w1 ⟨rfl,b1⟩;replace k0:=kb0 b1 k0;replace d0:=za1 d0 b1;replace r0:=(r0.below b1).mono b1.size;replace hv0:=hv0.below b1;clear b1
  go_wp2_with fail
  refine (zch _ bks F _ hFl HMS.out r0).mono ?_;rintro e w2 ⟨rfl,b2⟩;replace k0:=kb0 b2 k0;replace d0:=za1 d0 b2;replace r0:=(r0.below b2).mono b2.size;replace hv0:=hv0.below b2;clear b2
  obtain ⟨x,hx⟩ : ∃ x,bkAt bks F=x:=⟨_,rfl⟩
  rw [hx] at HBK hform ⊢;clear hx;obtain ⟨xn,xs,xm,xr,xf,xe⟩:=x;obtain ⟨ox,kx,cx,hxm⟩:=hform;simp only at hxm;subst hxm;simp only [Bk.pb] at HBK;obtain ⟨W3,hW3,k6,d3,z3⟩:=zb4 w2 #[.string xn,.int .i64 xs,.slice ox kx cx,.bool xf,.int .i64 xe] 117;have HW3 : Hid (W3 = _):=hW3;replace k0:=kb0 d3 k0;replace d0:=za1 d0 d3;replace r0:=(r0.below d3).mono d3.size;replace hv0:=hv0.below d3;obtain ⟨p0,p1,p2,p3,p4,p5⟩:=cq6 k0;rw [hW3] at p0 p1 p2 p3 p4 p5;clear hW3 z3 d3;simp only [bookC]
  go_wp2_with fail
  rw [<- HW3.out];clear HW3 p0 p1 p2 p3 p4 p5;refine (zbr 7 nm ot at_ va ep _ hn ho (by unfold I64;omega) fa fv fe).mono ?_;rw [hok];rintro e w4 ⟨rfl,b4⟩;replace k0:=kb0 b4 k0;replace k6:=kb0 b4 k6;replace d0:=za1 d0 b4;replace r0:=(r0.below b4).mono b4.size;replace hv0:=hv0.below b4;clear b4;have HLN : Hid ((bks.map Bk.pb).length=bks.length):=List.length_map _
  obtain ⟨bs,hbs⟩ : ∃ bs,bks.map Bk.pb=bs:=⟨_,rfl⟩
  have HBS : Hid (bks.map Bk.pb=bs):=hbs;rw [hbs] at HFP HBK HLN;clear hbs;have M : ∀ w : World,Calls Tryz.prog 229 #[.int .i64 7] w fun e w'=>e = .returned (.bool false)/\w'=w:=fun w=>zd9 7 (by omega) w
  have E : ∀ w : World,Calls Tryz.prog 231 #[.int .i64 7] w fun e w'=>e = .returned (.bool true)/\w'=w:=fun w=>zbq 7 (by omega) w
  have C : ∀ w : World,Calls Tryz.prog 232 #[.int .i64 7] w fun e w'=>e = .returned (.bool true)/\w'=w:=fun w=>zbf 7 (by omega) w
  have P : ∀ w : World,Calls Tryz.prog 233 #[.int .i64 7] w fun e w'=>e = .returned (.bool false)/\w'=w:=fun w=>zbx 7 (by omega) w
  obtain ⟨p0,p1,p2,p3,p4,p5⟩:=cq6 k0;have q1:=za0 k6 1;have q3:=za0 k6 3;have q4:=za0 k6 4;have g2:=hv0.cell 3 (by decide);have g4:=hv0.cell 5 (by decide);have g5:=hv0.cell 6 (by decide);by_cases h2 : F < 0
  · skip
    have HV : Hid (refErr ad (za5 bs ⟨7,nm,ot,at_,va,ep⟩) = .iface 218 (.agg #[.int .i64 2,.iface 334 (.pointer (some (ad 3)))])):=by
      have e1 : za5 bs ⟨7,nm,ot,at_,va,ep⟩=2:=by rw [zin,HFP.out,if_pos (by omega)]
      rw [e1];rfl
    clear HFP HFB HBK
    go_wp2_with (first | (go_at_call 229;refine (M _).mono ?_;rintro e w' ⟨rfl,rfl⟩) | (go_at_call 231;refine (E _).mono ?_;rintro e w' ⟨rfl,rfl⟩) | (go_at_call 232;refine (C _).mono ?_;rintro e w' ⟨rfl,rfl⟩) | (go_at_call 233;refine (P _).mono ?_;rintro e w' ⟨rfl,rfl⟩))
    go_ret;exact ⟨zb7 (by rw [HBS.out];exact HV.out.symm),d0⟩
  by_cases h4 : ep < xe
  · skip
    have HV : Hid (refErr ad (za5 bs ⟨7,nm,ot,at_,va,ep⟩) = .iface 218 (.agg #[.int .i64 4,.iface 334 (.pointer (some (ad 5)))])):=by
      have e1 : za5 bs ⟨7,nm,ot,at_,va,ep⟩=4:=by rw [zin,HFP.out,if_neg (by omega),HBK.out (by omega),if_pos (show ep < xe by omega)]
      rw [e1];rfl
    clear HFP HFB HBK
    go_wp2_with (first | (go_at_call 229;refine (M _).mono ?_;rintro e w' ⟨rfl,rfl⟩) | (go_at_call 231;refine (E _).mono ?_;rintro e w' ⟨rfl,rfl⟩) | (go_at_call 232;refine (C _).mono ?_;rintro e w' ⟨rfl,rfl⟩) | (go_at_call 233;refine (P _).mono ?_;rintro e w' ⟨rfl,rfl⟩))
    go_ret;exact ⟨zb7 (by rw [HBS.out];exact HV.out.symm),d0⟩
  cases xf
  case true =>
    have HV : Hid (refErr ad (za5 bs ⟨7,nm,ot,at_,va,ep⟩) = .iface 218 (.agg #[.int .i64 5,.iface 334 (.pointer (some (ad 6)))])):=by
      have e1 : za5 bs ⟨7,nm,ot,at_,va,ep⟩=5:=by rw [zin,HFP.out,if_neg (by omega),HBK.out (by omega),if_neg (show ¬ ep < xe by omega),if_pos rfl]
      rw [e1];rfl
    clear HFP HFB HBK
    go_wp2_with (first | (go_at_call 229;refine (M _).mono ?_;rintro e w' ⟨rfl,rfl⟩) | (go_at_call 231;refine (E _).mono ?_;rintro e w' ⟨rfl,rfl⟩) | (go_at_call 232;refine (C _).mono ?_;rintro e w' ⟨rfl,rfl⟩) | (go_at_call 233;refine (P _).mono ?_;rintro e w' ⟨rfl,rfl⟩))
    go_ret;exact ⟨zb7 (by rw [HBS.out];exact HV.out.symm),d0⟩
  have HV : Hid (refErr ad (za5 bs ⟨7,nm,ot,at_,va,ep⟩) = .nilIface):=by
    have e1 : za5 bs ⟨7,nm,ot,at_,va,ep⟩=0:=by rw [zin,HFP.out,if_neg (by omega),HBK.out (by omega),if_neg (show ¬ ep < xe by omega),if_neg (show ¬ false=true from Bool.false_ne_true)]
    rw [e1];rfl
  clear HFP HFB HBK
  go_wp2_with (first | (go_at_call 229;refine (M _).mono ?_;rintro e w' ⟨rfl,rfl⟩) | (go_at_call 231;refine (E _).mono ?_;rintro e w' ⟨rfl,rfl⟩) | (go_at_call 232;refine (C _).mono ?_;rintro e w' ⟨rfl,rfl⟩) | (go_at_call 233;refine (P _).mono ?_;rintro e w' ⟨rfl,rfl⟩))
  go_ret;exact ⟨zb7 (by rw [HBS.out];exact HV.out.symm),d0⟩
set_option maxRecDepth 100000 in
theorem zy1 (vb : Value) (bks : List Bk) (nm ot : ByteArray) (at_ va ep : Int) (w : World) (ad : Nat->Addr) (hv : Vars w ad) (hn : nm.size<=maxLen) (ho : ot.size<=maxLen) (fa : I64 at_) (fv : I64 va) (fe : I64 ep) (hlen : bks.length<=6) (hep : ∀ b ∈ bks,b.ep<=1000) (hms : ∀ b ∈ bks,∃ o k cap,b.m = .slice o k cap) (r : ReadsR 5 bookC w.heap.size w vb bks) (hok : opOk ⟨8,nm,ot,at_,va,ep⟩=true) :
    Calls Tryz.prog 207 #[vb,.agg #[.int .i64 8,.string nm,.string ot,.int .i64 at_,.int .i64 va,.int .i64 ep]] w fun e w'=>e = .returned (refErr ad (za5 (bks.map Bk.pb) ⟨8,nm,ot,at_,va,ep⟩))/\Below w.heap.size w w':=by
  obtain ⟨ob,cpb,hvb,mb,-,-⟩:=id r;subst hvb;unfold maxLen at mb;obtain ⟨W0,hW0,k0,d0,z0⟩:=zb4 w #[.int .i64 8,.string nm,.string ot,.int .i64 at_,.int .i64 va,.int .i64 ep] 37;have HW0 : Hid (W0 = _):=hW0;have HMS : Hid _:=hms
  have HEP0 : Hid (0<=zag bks nm->(bkAt bks (zag bks nm)).ep<=1000):=fun h=>by
    rw [bkAt,if_neg (by omega),List.getD_eq_getElem?_getD]
    cases hq : bks[(zag bks nm).toNat]? with
    | none=>decide
    | some y=>exact hep y (List.mem_of_getElem? hq)
  have r0:=(r.below d0).mono d0.size;have hv0:=hv.below d0;have p1:=za0 k0 1;have hFl:=zde bks nm
  obtain ⟨F,hF⟩ : ∃ F,zag bks nm=F:=⟨_,rfl⟩
  have HFB : Hid (zag bks nm=F):=hF;have HFP : Hid (findP (bks.map Bk.pb) nm=F):=by rw [Hid,<- zdb];exact hF
  have HBK : Hid (0<=F->zau (bks.map Bk.pb) F=(bkAt bks F).pb):=fun h=>zeb bks F (by omega)
  have hform:=zcz bks F hms;rw [hF] at hFl HEP0;clear hW0 z0 r hv hms hF
  go_enter Tryz.func207,Tryz.ntmps207
  go_wp2_with fail
  rw [<- HW0.out];clear HW0 p1;refine (zal _ bks nm _ HMS.out r0).mono ?_;rw [HFB.out];rintro e w1 ⟨rfl,b1⟩;replace k0:=kb0 b1 k0;replace d0:=za1 d0 b1;replace r0:=(r0.below b1).mono b1.size;replace hv0:=hv0.below b1;clear b1
  go_wp2_with fail
  refine (zch _ bks F _ hFl HMS.out r0).mono ?_;rintro e w2 ⟨rfl,b2⟩;replace k0:=kb0 b2 k0;replace d0:=za1 d0 b2;replace r0:=(r0.below b2).mono b2.size;replace hv0:=hv0.below b2;clear b2
  obtain ⟨x,hx⟩ : ∃ x,bkAt bks F=x:=⟨_,rfl⟩
  rw [hx] at HBK hform HEP0 ⊢;clear hx;obtain ⟨xn,xs,xm,xr,xf,xe⟩:=x;obtain ⟨ox,kx,cx,hxm⟩:=hform;simp only at hxm;subst hxm;simp only [Bk.pb] at HBK;have HEP : Hid (0<=F->xe<=1000):=HEP0.out;obtain ⟨W3,hW3,k6,d3,z3⟩:=zb4 w2 #[.string xn,.int .i64 xs,.slice ox kx cx,.bool xf,.int .i64 xe] 117;have HW3 : Hid (W3 = _):=hW3;replace k0:=kb0 d3 k0;replace d0:=za1 d0 d3;replace r0:=(r0.below d3).mono d3.size;replace hv0:=hv0.below d3;obtain ⟨p0,p1,p2,p3,p4,p5⟩:=cq6 k0;rw [hW3] at p0 p1 p2 p3 p4 p5;clear hW3 z3 d3;simp only [bookC]
  go_wp2_with fail
  rw [<- HW3.out];clear HW3 p0 p1 p2 p3 p4 p5;refine (zbr 8 nm ot at_ va ep _ hn ho (by unfold I64;omega) fa fv fe).mono ?_;rw [hok];rintro e w4 ⟨rfl,b4⟩;replace k0:=kb0 b4 k0;replace k6:=kb0 b4 k6;replace d0:=za1 d0 b4;replace r0:=(r0.below b4).mono b4.size;replace hv0:=hv0.below b4;clear b4;have HLN : Hid ((bks.map Bk.pb).length=bks.length):=List.length_map _
  obtain ⟨bs,hbs⟩ : ∃ bs,bks.map Bk.pb=bs:=⟨_,rfl⟩
  have HBS : Hid (bks.map Bk.pb=bs):=hbs;rw [hbs] at HFP HBK HLN;clear hbs;have M : ∀ w : World,Calls Tryz.prog 229 #[.int .i64 8] w fun e w'=>e = .returned (.bool false)/\w'=w:=fun w=>zd9 8 (by omega) w
  have E : ∀ w : World,Calls Tryz.prog 231 #[.int .i64 8] w fun e w'=>e = .returned (.bool false)/\w'=w:=fun w=>zbq 8 (by omega) w
  have C : ∀ w : World,Calls Tryz.prog 232 #[.int .i64 8] w fun e w'=>e = .returned (.bool false)/\w'=w:=fun w=>zbf 8 (by omega) w
  have P : ∀ w : World,Calls Tryz.prog 233 #[.int .i64 8] w fun e w'=>e = .returned (.bool false)/\w'=w:=fun w=>zbx 8 (by omega) w
  obtain ⟨p0,p1,p2,p3,p4,p5⟩:=cq6 k0;have q1:=za0 k6 1;have q3:=za0 k6 3;have q4:=za0 k6 4;have g2:=hv0.cell 3 (by decide);have g8:=hv0.cell 9 (by decide);by_cases h2 : F < 0
  · skip
    have HV : Hid (refErr ad (za5 bs ⟨8,nm,ot,at_,va,ep⟩) = .iface 218 (.agg #[.int .i64 2,.iface 334 (.pointer (some (ad 3)))])):=by
      have e1 : za5 bs ⟨8,nm,ot,at_,va,ep⟩=2:=by rw [zlv,HFP.out,if_pos (by omega)]
      rw [e1];rfl
    clear HFP HFB HBK
    go_wp2_with (first | (go_at_call 229;refine (M _).mono ?_;rintro e w' ⟨rfl,rfl⟩) | (go_at_call 231;refine (E _).mono ?_;rintro e w' ⟨rfl,rfl⟩) | (go_at_call 232;refine (C _).mono ?_;rintro e w' ⟨rfl,rfl⟩) | (go_at_call 233;refine (P _).mono ?_;rintro e w' ⟨rfl,rfl⟩))
    go_ret;exact ⟨zb7 (by rw [HBS.out];exact HV.out.symm),d0⟩
  by_cases h8 : 1000<=xe
  · skip
    have hw6 : xe=1000:=by have:=HEP.out (by omega);omega
    have HV : Hid (refErr ad (za5 bs ⟨8,nm,ot,at_,va,ep⟩) = .iface 218 (.agg #[.int .i64 8,.iface 334 (.pointer (some (ad 9)))])):=by
      have e1 : za5 bs ⟨8,nm,ot,at_,va,ep⟩=8:=by rw [zlv,HFP.out,if_neg (by omega),HBK.out (by omega),if_pos (show xe=1000 by omega)]
      rw [e1];rfl
    clear HFP HFB HBK
    go_wp2_with (first | (go_at_call 229;refine (M _).mono ?_;rintro e w' ⟨rfl,rfl⟩) | (go_at_call 231;refine (E _).mono ?_;rintro e w' ⟨rfl,rfl⟩) | (go_at_call 232;refine (C _).mono ?_;rintro e w' ⟨rfl,rfl⟩) | (go_at_call 233;refine (P _).mono ?_;rintro e w' ⟨rfl,rfl⟩))
    go_ret;exact ⟨zb7 (by rw [HBS.out];exact HV.out.symm),d0⟩
  have hw6 : ¬ xe=1000:=by omega
  have HV : Hid (refErr ad (za5 bs ⟨8,nm,ot,at_,va,ep⟩) = .nilIface):=by
    have e1 : za5 bs ⟨8,nm,ot,at_,va,ep⟩=0:=by rw [zlv,HFP.out,if_neg (by omega),HBK.out (by omega),if_neg (show ¬ xe=1000 by omega)]
    rw [e1];rfl
  clear HFP HFB HBK
  go_wp2_with (first | (go_at_call 229;refine (M _).mono ?_;rintro e w' ⟨rfl,rfl⟩) | (go_at_call 231;refine (E _).mono ?_;rintro e w' ⟨rfl,rfl⟩) | (go_at_call 232;refine (C _).mono ?_;rintro e w' ⟨rfl,rfl⟩) | (go_at_call 233;refine (P _).mono ?_;rintro e w' ⟨rfl,rfl⟩))
  go_ret;exact ⟨zb7 (by rw [HBS.out];exact HV.out.symm),d0⟩
set_option maxRecDepth 100000 in
theorem zy2 (vb : Value) (bks : List Bk) (nm ot : ByteArray) (at_ va ep : Int) (w : World) (ad : Nat->Addr) (hv : Vars w ad) (hn : nm.size<=maxLen) (ho : ot.size<=maxLen) (fa : I64 at_) (fv : I64 va) (fe : I64 ep) (hlen : bks.length<=6) (hep : ∀ b ∈ bks,b.ep<=1000) (hms : ∀ b ∈ bks,∃ o k cap,b.m = .slice o k cap) (r : ReadsR 5 bookC w.heap.size w vb bks) (hok : opOk ⟨9,nm,ot,at_,va,ep⟩=true) :
    Calls Tryz.prog 207 #[vb,.agg #[.int .i64 9,.string nm,.string ot,.int .i64 at_,.int .i64 va,.int .i64 ep]] w fun e w'=>e = .returned (refErr ad (za5 (bks.map Bk.pb) ⟨9,nm,ot,at_,va,ep⟩))/\Below w.heap.size w w':=by
  obtain ⟨ob,cpb,hvb,mb,-,-⟩:=id r;subst hvb;unfold maxLen at mb;obtain ⟨W0,hW0,k0,d0,z0⟩:=zb4 w #[.int .i64 9,.string nm,.string ot,.int .i64 at_,.int .i64 va,.int .i64 ep] 37;have HW0 : Hid (W0 = _):=hW0;have HMS : Hid _:=hms;have r0:=(r.below d0).mono d0.size;have hv0:=hv.below d0;have p1:=za0 k0 1;have hFl:=zde bks nm
  obtain ⟨F,hF⟩ : ∃ F,zag bks nm=F:=⟨_,rfl⟩
  have HFB : Hid (zag bks nm=F):=hF;have HFP : Hid (findP (bks.map Bk.pb) nm=F):=by rw [Hid,<- zdb];exact hF
  have HBK : Hid (0<=F->zau (bks.map Bk.pb) F=(bkAt bks F).pb):=fun h=>zeb bks F (by omega)
  have hform:=zcz bks F hms;rw [hF] at hFl;clear hW0 z0 r hv hms hF
  go_enter Tryz.func207,Tryz.ntmps207
  go_wp2_with fail
  rw [<- HW0.out];clear HW0 p1;refine (zal _ bks nm _ HMS.out r0).mono ?_;rw [HFB.out];rintro e w1 ⟨rfl,b1⟩;replace k0:=kb0 b1 k0;replace d0:=za1 d0 b1;replace r0:=(r0.below b1).mono b1.size;replace hv0:=hv0.below b1;clear b1
  go_wp2_with fail
  refine (zch _ bks F _ hFl HMS.out r0).mono ?_;rintro e w2 ⟨rfl,b2⟩;replace k0:=kb0 b2 k0;replace d0:=za1 d0 b2;replace r0:=(r0.below b2).mono b2.size;replace hv0:=hv0.below b2;clear b2
  obtain ⟨x,hx⟩ : ∃ x,bkAt bks F=x:=⟨_,rfl⟩
  rw [hx] at HBK hform ⊢;clear hx;obtain ⟨xn,xs,xm,xr,xf,xe⟩:=x;obtain ⟨ox,kx,cx,hxm⟩:=hform;simp only at hxm;subst hxm;simp only [Bk.pb] at HBK;obtain ⟨W3,hW3,k6,d3,z3⟩:=zb4 w2 #[.string xn,.int .i64 xs,.slice ox kx cx,.bool xf,.int .i64 xe] 117;have HW3 : Hid (W3 = _):=hW3;replace k0:=kb0 d3 k0;replace d0:=za1 d0 d3;replace r0:=(r0.below d3).mono d3.size;replace hv0:=hv0.below d3;obtain ⟨p0,p1,p2,p3,p4,p5⟩:=cq6 k0;rw [hW3] at p0 p1 p2 p3 p4 p5;clear hW3 z3 d3;simp only [bookC]
  go_wp2_with fail
  rw [<- HW3.out];clear HW3 p0 p1 p2 p3 p4 p5;refine (zbr 9 nm ot at_ va ep _ hn ho (by unfold I64;omega) fa fv fe).mono ?_;rw [hok];rintro e w4 ⟨rfl,b4⟩;replace k0:=kb0 b4 k0;replace k6:=kb0 b4 k6;replace d0:=za1 d0 b4;replace r0:=(r0.below b4).mono b4.size;replace hv0:=hv0.below b4;clear b4;have HLN : Hid ((bks.map Bk.pb).length=bks.length):=List.length_map _
  obtain ⟨bs,hbs⟩ : ∃ bs,bks.map Bk.pb=bs:=⟨_,rfl⟩
  have HBS : Hid (bks.map Bk.pb=bs):=hbs;rw [hbs] at HFP HBK HLN;clear hbs;have M : ∀ w : World,Calls Tryz.prog 229 #[.int .i64 9] w fun e w'=>e = .returned (.bool false)/\w'=w:=fun w=>zd9 9 (by omega) w
  have E : ∀ w : World,Calls Tryz.prog 231 #[.int .i64 9] w fun e w'=>e = .returned (.bool false)/\w'=w:=fun w=>zbq 9 (by omega) w
  have C : ∀ w : World,Calls Tryz.prog 232 #[.int .i64 9] w fun e w'=>e = .returned (.bool false)/\w'=w:=fun w=>zbf 9 (by omega) w
  have P : ∀ w : World,Calls Tryz.prog 233 #[.int .i64 9] w fun e w'=>e = .returned (.bool true)/\w'=w:=fun w=>zbx 9 (by omega) w
  obtain ⟨p0,p1,p2,p3,p4,p5⟩:=cq6 k0;have q1:=za0 k6 1;have q3:=za0 k6 3;have q4:=za0 k6 4;have g2:=hv0.cell 3 (by decide);have g6:=hv0.cell 7 (by decide);by_cases h2 : F < 0
  · skip
    have HV : Hid (refErr ad (za5 bs ⟨9,nm,ot,at_,va,ep⟩) = .iface 218 (.agg #[.int .i64 2,.iface 334 (.pointer (some (ad 3)))])):=by
      have e1 : za5 bs ⟨9,nm,ot,at_,va,ep⟩=2:=by rw [zlw,HFP.out,if_pos (by omega)]
      rw [e1];rfl
    clear HFP HFB HBK
    go_wp2_with (first | (go_at_call 229;refine (M _).mono ?_;rintro e w' ⟨rfl,rfl⟩) | (go_at_call 231;refine (E _).mono ?_;rintro e w' ⟨rfl,rfl⟩) | (go_at_call 232;refine (C _).mono ?_;rintro e w' ⟨rfl,rfl⟩) | (go_at_call 233;refine (P _).mono ?_;rintro e w' ⟨rfl,rfl⟩))
    go_ret;exact ⟨zb7 (by rw [HBS.out];exact HV.out.symm),d0⟩
  by_cases h6 : xs<=at_
  · skip
    have HV : Hid (refErr ad (za5 bs ⟨9,nm,ot,at_,va,ep⟩) = .iface 218 (.agg #[.int .i64 6,.iface 334 (.pointer (some (ad 7)))])):=by
      have e1 : za5 bs ⟨9,nm,ot,at_,va,ep⟩=6:=by rw [zlw,HFP.out,if_neg (by omega),HBK.out (by omega),if_pos (show xs<=at_ by omega)]
      rw [e1];rfl
    clear HFP HFB HBK
    go_wp2_with (first | (go_at_call 229;refine (M _).mono ?_;rintro e w' ⟨rfl,rfl⟩) | (go_at_call 231;refine (E _).mono ?_;rintro e w' ⟨rfl,rfl⟩) | (go_at_call 232;refine (C _).mono ?_;rintro e w' ⟨rfl,rfl⟩) | (go_at_call 233;refine (P _).mono ?_;rintro e w' ⟨rfl,rfl⟩))
    go_ret;exact ⟨zb7 (by rw [HBS.out];exact HV.out.symm),d0⟩
  have hA2 : ¬ xs<=at_:=h6
  have HV : Hid (refErr ad (za5 bs ⟨9,nm,ot,at_,va,ep⟩) = .nilIface):=by
    have e1 : za5 bs ⟨9,nm,ot,at_,va,ep⟩=0:=by rw [zlw,HFP.out,if_neg (by omega),HBK.out (by omega),if_neg (show ¬ xs<=at_ by omega)]
    rw [e1];rfl
  clear HFP HFB HBK
  go_wp2_with (first | (go_at_call 229;refine (M _).mono ?_;rintro e w' ⟨rfl,rfl⟩) | (go_at_call 231;refine (E _).mono ?_;rintro e w' ⟨rfl,rfl⟩) | (go_at_call 232;refine (C _).mono ?_;rintro e w' ⟨rfl,rfl⟩) | (go_at_call 233;refine (P _).mono ?_;rintro e w' ⟨rfl,rfl⟩))
  go_ret;exact ⟨zb7 (by rw [HBS.out];exact HV.out.symm),d0⟩
set_option maxRecDepth 100000 in
theorem zty (k : Int) (fk : I64 k) (vb : Value) (bks : List Bk) (nm ot : ByteArray) (at_ va ep : Int) (w : World) (ad : Nat->Addr) (hv : Vars w ad) (hn : nm.size<=maxLen) (ho : ot.size<=maxLen) (fa : I64 at_) (fv : I64 va) (fe : I64 ep) (hlen : bks.length<=6) (hep : ∀ b ∈ bks,b.ep<=1000) (hms : ∀ b ∈ bks,∃ o k cap,b.m = .slice o k cap) (r : ReadsR 5 bookC w.heap.size w vb bks) (hok : opOk ⟨k,nm,ot,at_,va,ep⟩=false) :
    Calls Tryz.prog 207 #[vb,.agg #[.int .i64 k,.string nm,.string ot,.int .i64 at_,.int .i64 va,.int .i64 ep]] w fun e w'=>e = .returned (refErr ad 1)/\Below w.heap.size w w':=by
  obtain ⟨ob,cpb,hvb,mb,-,-⟩:=id r;subst hvb;unfold maxLen at mb;obtain ⟨W0,hW0,k0,d0,z0⟩:=zb4 w #[.int .i64 k,.string nm,.string ot,.int .i64 at_,.int .i64 va,.int .i64 ep] 37;have HW0 : Hid (W0 = _):=hW0;have HMS : Hid _:=hms;have r0:=(r.below d0).mono d0.size;have hv0:=hv.below d0;have p1:=za0 k0 1;have hFl:=zde bks nm
  obtain ⟨F,hF⟩ : ∃ F,zag bks nm=F:=⟨_,rfl⟩
  have HFB : Hid (zag bks nm=F):=hF;have HFP : Hid (findP (bks.map Bk.pb) nm=F):=by rw [Hid,<- zdb];exact hF
  have HBK : Hid (0<=F->zau (bks.map Bk.pb) F=(bkAt bks F).pb):=fun h=>zeb bks F (by omega)
  have hform:=zcz bks F hms;rw [hF] at hFl;clear hW0 z0 r hv hms hF
  go_enter Tryz.func207,Tryz.ntmps207
  go_wp2_with fail
  rw [<- HW0.out];clear HW0 p1;refine (zal _ bks nm _ HMS.out r0).mono ?_;rw [HFB.out];rintro e w1 ⟨rfl,b1⟩;replace k0:=kb0 b1 k0;replace d0:=za1 d0 b1;replace r0:=(r0.below b1).mono b1.size;replace hv0:=hv0.below b1;clear b1
  go_wp2_with fail
  refine (zch _ bks F _ hFl HMS.out r0).mono ?_;rintro e w2 ⟨rfl,b2⟩;replace k0:=kb0 b2 k0;replace d0:=za1 d0 b2;replace r0:=(r0.below b2).mono b2.size;replace hv0:=hv0.below b2;clear b2
  obtain ⟨x,hx⟩ : ∃ x,bkAt bks F=x:=⟨_,rfl⟩
  rw [hx] at HBK hform ⊢;clear hx;obtain ⟨xn,xs,xm,xr,xf,xe⟩:=x;obtain ⟨ox,kx,cx,hxm⟩:=hform;simp only at hxm;subst hxm;simp only [Bk.pb] at HBK;obtain ⟨W3,hW3,k6,d3,z3⟩:=zb4 w2 #[.string xn,.int .i64 xs,.slice ox kx cx,.bool xf,.int .i64 xe] 117;have HW3 : Hid (W3 = _):=hW3;replace k0:=kb0 d3 k0;replace d0:=za1 d0 d3;replace r0:=(r0.below d3).mono d3.size;replace hv0:=hv0.below d3;obtain ⟨p0,p1,p2,p3,p4,p5⟩:=cq6 k0;rw [hW3] at p0 p1 p2 p3 p4 p5;clear hW3 z3 d3;simp only [bookC]
  go_wp2_with fail
  rw [<- HW3.out];clear HW3 p0 p1 p2 p3 p4 p5;refine (zbr k nm ot at_ va ep _ hn ho fk fa fv fe).mono ?_;rw [hok];rintro e w4 ⟨rfl,b4⟩;replace k0:=kb0 b4 k0;replace k6:=kb0 b4 k6;replace d0:=za1 d0 b4;replace r0:=(r0.below b4).mono b4.size;replace hv0:=hv0.below b4;clear b4;have g1:=hv0.cell 2 (by decide);clear HFP HFB HBK k0 k6
  go_wp2_with fail
  go_ret;exact ⟨rfl,d0⟩
def zdi (bs : List Pb) (o : Oq) : Int:=if opOk o=false then 1 else za5 bs o
theorem zmm (k : Int) (fk : I64 k) (vb : Value) (bks : List Bk) (nm ot : ByteArray) (at_ va ep : Int) (w : World) (ad : Nat->Addr) (hv : Vars w ad) (hn : nm.size<=maxLen) (ho : ot.size<=maxLen) (fa : I64 at_) (fv : I64 va) (fe : I64 ep) (hlen : bks.length<=6) (hep : ∀ b ∈ bks,b.ep<=1000) (hms : ∀ b ∈ bks,∃ o k cap,b.m = .slice o k cap) (r : ReadsR 5 bookC w.heap.size w vb bks) :
    Calls Tryz.prog 207 #[vb,.agg #[.int .i64 k,.string nm,.string ot,.int .i64 at_,.int .i64 va,.int .i64 ep]] w fun e w'=>e = .returned (refErr ad (zdi (bks.map Bk.pb) ⟨k,nm,ot,at_,va,ep⟩))/\Below w.heap.size w w':=by
  cases hok : opOk ⟨k,nm,ot,at_,va,ep⟩
  · rw [zdi,if_pos hok]
    exact zty k fk vb bks nm ot at_ va ep w ad hv hn ho fa fv fe hlen hep hms r hok
  · rw [zdi,if_neg (by rw [hok];decide)]
    have hk : 1<=k/\k<=9:=(zc9 hok).2.1;have h : k=1\/k=2\/k=3\/k=4\/k=5\/k=6\/k=7\/k=8\/k=9:=by omega
    rcases h with rfl | rfl | rfl | rfl | rfl | rfl | rfl | rfl | rfl
    · exact zxu vb bks nm ot at_ va ep w ad hv hn ho fa fv fe hlen hep hms r hok
    · exact zxv vb bks nm ot at_ va ep w ad hv hn ho fa fv fe hlen hep hms r hok
    · exact zxw vb bks nm ot at_ va ep w ad hv hn ho fa fv fe hlen hep hms r hok
    · exact zxx vb bks nm ot at_ va ep w ad hv hn ho fa fv fe hlen hep hms r hok
    · exact zxy vb bks nm ot at_ va ep w ad hv hn ho fa fv fe hlen hep hms r hok
    · exact zxz vb bks nm ot at_ va ep w ad hv hn ho fa fv fe hlen hep hms r hok
    · exact zy0 vb bks nm ot at_ va ep w ad hv hn ho fa fv fe hlen hep hms r hok
    · exact zy1 vb bks nm ot at_ va ep w ad hv hn ho fa fv fe hlen hep hms r hok
    · exact zy2 vb bks nm ot at_ va ep w ad hv hn ho fa fv fe hlen hep hms r hok
end Go.Proofs.YtfkkapdofjhgpaaGreatDoor
