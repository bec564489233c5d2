import Derived.Test.YtfkkapdofjhgpaaGreatDoorM09
set_option maxHeartbeats 12800000
namespace Go.Proofs.YtfkkapdofjhgpaaGreatDoor
open Go.RowKit
set_option linter.unusedVariables false
set_option maxRecDepth 100000
theorem findP_map (bks : List Bk) (n : ByteArray) : findP (bks.map Bk.pb) n=zag bks n:=by
  unfold findP zag;rw [List.map_map]
  rfl
theorem zds (bks : List Bk) (n : ByteArray) (h : ¬ zag bks n < 0) : ∃ (i : Nat) (hi : i < bks.length),zag bks n=i/\zau (bks.map Bk.pb) (zag bks n)=bks[i].pb:=by
  rw [<- findP_map] at h;obtain ⟨i,hi,h1,h2⟩:=zhd _ n h;have hi' : i < bks.length:=by simpa using hi
  rw [findP_map] at h1;refine ⟨i,hi',h1,?_⟩;rw [h1,zbz _ i hi];simp
def zce (f g : Int) (n : Nat) (b : Pb) (o : Oq) : Int :=
  if o.k ≠ 1/\f < 0 then 2
  else if (o.k=1/\0<=f)\/(kOther o.k=true/\0<=g) then 3
  else if o.k=1 then (if n=6 then 7 else 0)
  else if kEpoch o.k=true/\o.ep < b.ep then 4
  else if kEpoch o.k=true/\o.k ≠ 6/\b.fx=true then 5
  else if kAt o.k=true/\b.sz<=o.at_ then 6
  else if kOther o.k=true/\n=6 then 7
  else if o.k=8/\b.ep=1000 then 8
  else 0
theorem zcr (bks : List Bk) (o : Oq) : za5 (bks.map Bk.pb) o=zce (zag bks o.nm) (zag bks o.ot) bks.length (zau (bks.map Bk.pb) (zag bks o.nm)) o:=by
  unfold za5 zce;rw [findP_map,findP_map,List.length_map]
theorem refBy_1 (f g : Int) (n : Nat) (b : Pb) (nm ot : ByteArray) (at_ va ep : Int) : zce f g n b ⟨1,nm,ot,at_,va,ep⟩=(if 0<=f then 3 else if n=6 then 7 else 0):=by
  unfold zce;simp only [show kOther 1=false from rfl,show kEpoch 1=false from rfl,show kAt 1=false from rfl];simp
theorem zt3 (v : Value) (bks : List Bk) (nm ot : ByteArray) (at_ va ep : Int) (w : World) (r : ReadsR 5 bookC w.heap.size w v bks) (hfm : ∀ b ∈ bks,∃ o k cp,b.m = .slice o k cp) :
    Calls Tryz.prog 139 #[v,.agg #[.int .i64 1,.string nm,.string ot,.int .i64 at_,.int .i64 va,.int .i64 ep]] w fun e w'=>e = .returned (.int .i64 (za5 (bks.map Bk.pb) ⟨1,nm,ot,at_,va,ep⟩))/\Below w.heap.size w w':=by
  obtain ⟨W0,hW0,k0,d0,z0⟩:=zb4 w #[.int .i64 1,.string nm,.string ot,.int .i64 at_,.int .i64 va,.int .i64 ep] 37;have r0:=(r.below d0).mono d0.size;have HW0 : Hid (W0 = _):=hW0;obtain ⟨p0,p1,p2,p3⟩:=cq4 k0;have p5:=za0 k0 5;have s0:=za2 k0;have HIN : Hid _:=zds bks nm;have HR : Hid (za5 (bks.map Bk.pb) ⟨1,nm,ot,at_,va,ep⟩=zce (zag bks nm) (zag bks ot) bks.length (zau (bks.map Bk.pb) (zag bks nm)) ⟨1,nm,ot,at_,va,ep⟩):=zcr bks _
  obtain ⟨f,hf⟩ : ∃ f,zag bks nm=f:=⟨_,rfl⟩
  obtain ⟨g,hg⟩ : ∃ g,zag bks ot=g:=⟨_,rfl⟩
  obtain ⟨o,cap,rfl,hm,hc,-⟩:=r;obtain ⟨o2,cap2,e2,-,hc2,-⟩:=id r0;simp only [Value.slice.injEq] at e2;obtain ⟨rfl,-,rfl⟩:=e2;have HC : Hid _:=zbj hc2;clear hc2;rw [hf] at HIN HR;rw [hg] at HR;have hlen : bks.length<=maxLen:=hm;clear hW0 k0 z0 hc hm
  go_enter Tryz.func139,Tryz.ntmps139
  go_wp2_with fail
  rw [<- HW0.out];clear HW0;refine (zap _ bks nm _ r0).mono ?_;rw [hf];clear hf;rintro e w1 ⟨rfl,rfl⟩;by_cases h1 : 0<=f
  · skip
    have HV : Hid (za5 (bks.map Bk.pb) ⟨1,nm,ot,at_,va,ep⟩=3):=by rw [Hid,HR.out,refBy_1,if_pos h1]
    clear HR HC
    go_wp2_with fail
    go_ret;exact ⟨zam HV.out.symm,d0⟩
  by_cases h7 : bks.length=6
  · skip
    have h7e : (bks.length : Int)=6:=by omega
    have h7b : ((bks.length : Int) == 6)=true:=by rw [beq_iff_eq];exact h7e
    have HV : Hid (za5 (bks.map Bk.pb) ⟨1,nm,ot,at_,va,ep⟩=7):=by rw [Hid,HR.out,refBy_1,if_neg h1,if_pos h7]
    clear HR HC
    go_wp2_with fail
    go_ret;exact ⟨zam HV.out.symm,d0⟩
  have h7e : ¬ (bks.length : Int)=6:=by omega
  have h7b : ((bks.length : Int) == 6)=false:=by rw [beq_eq_false_iff_ne];exact h7e
  have HV : Hid (za5 (bks.map Bk.pb) ⟨1,nm,ot,at_,va,ep⟩=0):=by rw [Hid,HR.out,refBy_1,if_neg h1,if_neg h7]
  clear HR HC
  go_wp2_with fail
  go_ret;exact ⟨zam HV.out.symm,d0⟩
theorem refBy_2 (f g : Int) (n : Nat) (b : Pb) (nm ot : ByteArray) (at_ va ep : Int) : zce f g n b ⟨2,nm,ot,at_,va,ep⟩=(if f < 0 then 2 else if ep < b.ep then 4 else if b.fx=true then 5 else if b.sz<=at_ then 6 else 0):=by
  unfold zce;simp only [show kOther 2=false from rfl,show kEpoch 2=true from rfl,show kAt 2=true from rfl];simp
theorem zt4 (v : Value) (bks : List Bk) (nm ot : ByteArray) (at_ va ep : Int) (w : World) (r : ReadsR 5 bookC w.heap.size w v bks) (hfm : ∀ b ∈ bks,∃ o k cp,b.m = .slice o k cp) :
    Calls Tryz.prog 139 #[v,.agg #[.int .i64 2,.string nm,.string ot,.int .i64 at_,.int .i64 va,.int .i64 ep]] w fun e w'=>e = .returned (.int .i64 (za5 (bks.map Bk.pb) ⟨2,nm,ot,at_,va,ep⟩))/\Below w.heap.size w w':=by
  obtain ⟨W0,hW0,k0,d0,z0⟩:=zb4 w #[.int .i64 2,.string nm,.string ot,.int .i64 at_,.int .i64 va,.int .i64 ep] 37;have r0:=(r.below d0).mono d0.size;have HW0 : Hid (W0 = _):=hW0;obtain ⟨p0,p1,p2,p3⟩:=cq4 k0;have p5:=za0 k0 5;have s0:=za2 k0;have HIN : Hid _:=zds bks nm;have HR : Hid (za5 (bks.map Bk.pb) ⟨2,nm,ot,at_,va,ep⟩=zce (zag bks nm) (zag bks ot) bks.length (zau (bks.map Bk.pb) (zag bks nm)) ⟨2,nm,ot,at_,va,ep⟩):=zcr bks _
  obtain ⟨f,hf⟩ : ∃ f,zag bks nm=f:=⟨_,rfl⟩
  obtain ⟨g,hg⟩ : ∃ g,zag bks ot=g:=⟨_,rfl⟩
  obtain ⟨o,cap,rfl,hm,hc,-⟩:=r;obtain ⟨o2,cap2,e2,-,hc2,-⟩:=id r0;simp only [Value.slice.injEq] at e2;obtain ⟨rfl,-,rfl⟩:=e2;have HC : Hid _:=zbj hc2;clear hc2;rw [hf] at HIN HR;rw [hg] at HR;have hlen : bks.length<=maxLen:=hm;clear hW0 k0 z0 hc hm
  go_enter Tryz.func139,Tryz.ntmps139
  go_wp2_with fail
  rw [<- HW0.out];clear HW0;refine (zap _ bks nm _ r0).mono ?_;rw [hf];clear hf;rintro e w1 ⟨rfl,rfl⟩;by_cases h1 : f < 0
  · skip
    have HV : Hid (za5 (bks.map Bk.pb) ⟨2,nm,ot,at_,va,ep⟩=2):=by rw [Hid,HR.out,refBy_2,if_pos h1]
    clear HR HC
    go_wp2_with fail
    go_ret;exact ⟨zam HV.out.symm,d0⟩
  obtain ⟨i,hil,hfi,hbk⟩:=HIN.out (by omega);obtain ⟨g0,off,rfl,hg0,a0,a1,a2,a3,a4⟩:=HC.out i hil;obtain ⟨mo,mk,mc,hmf⟩:=hfm bks[i] (List.getElem_mem hil);rw [hbk] at HR;generalize bks[i]=x at a0 a1 a2 a3 a4 hmf HR;obtain ⟨nm0,sz0,m0,rs0,fx0,ep0⟩:=x;simp only [Bk.pb] at a0 a1 a2 a3 a4 hmf HR;subst hmf hfi;have hi0 : (0 : Int)<=(i : Int):=by omega
  have hi1 : (i : Int) < (bks.length : Int):=by omega
  clear HIN hbk hg0;by_cases h4 : ep < ep0
  · skip
    have HV : Hid (za5 (bks.map Bk.pb) ⟨2,nm,ot,at_,va,ep⟩=4):=by rw [Hid,HR.out,refBy_2,if_neg h1,if_pos h4]
    clear HR HC
    go_wp2_with fail
    go_ret;exact ⟨zam HV.out.symm,za3 d0⟩
  cases fx0 with
  | true =>
    have HV : Hid (za5 (bks.map Bk.pb) ⟨2,nm,ot,at_,va,ep⟩=5):=by rw [Hid,HR.out,refBy_2,if_neg h1,if_neg h4,if_pos rfl]
    clear HR HC
    go_wp2_with fail
    go_ret;exact ⟨zam HV.out.symm,za3 d0⟩
  | false =>
    by_cases h6 : sz0<=at_
    · skip
      have HV : Hid (za5 (bks.map Bk.pb) ⟨2,nm,ot,at_,va,ep⟩=6):=by rw [Hid,HR.out,refBy_2,if_neg h1,if_neg h4,if_neg Bool.false_ne_true,if_pos h6]
      clear HR HC
      go_wp2_with fail
      go_ret;exact ⟨zam HV.out.symm,za3 d0⟩
    have HV : Hid (za5 (bks.map Bk.pb) ⟨2,nm,ot,at_,va,ep⟩=0):=by rw [Hid,HR.out,refBy_2,if_neg h1,if_neg h4,if_neg Bool.false_ne_true,if_neg h6]
    clear HR HC
    go_wp2_with fail
    go_ret;exact ⟨zam HV.out.symm,za3 d0⟩
theorem refBy_3 (f g : Int) (n : Nat) (b : Pb) (nm ot : ByteArray) (at_ va ep : Int) : zce f g n b ⟨3,nm,ot,at_,va,ep⟩=(if f < 0 then 2 else if ep < b.ep then 4 else if b.fx=true then 5 else if b.sz<=at_ then 6 else 0):=by
  unfold zce;simp only [show kOther 3=false from rfl,show kEpoch 3=true from rfl,show kAt 3=true from rfl];simp
theorem zt5 (v : Value) (bks : List Bk) (nm ot : ByteArray) (at_ va ep : Int) (w : World) (r : ReadsR 5 bookC w.heap.size w v bks) (hfm : ∀ b ∈ bks,∃ o k cp,b.m = .slice o k cp) :
    Calls Tryz.prog 139 #[v,.agg #[.int .i64 3,.string nm,.string ot,.int .i64 at_,.int .i64 va,.int .i64 ep]] w fun e w'=>e = .returned (.int .i64 (za5 (bks.map Bk.pb) ⟨3,nm,ot,at_,va,ep⟩))/\Below w.heap.size w w':=by
  obtain ⟨W0,hW0,k0,d0,z0⟩:=zb4 w #[.int .i64 3,.string nm,.string ot,.int .i64 at_,.int .i64 va,.int .i64 ep] 37;have r0:=(r.below d0).mono d0.size;have HW0 : Hid (W0 = _):=hW0;obtain ⟨p0,p1,p2,p3⟩:=cq4 k0;have p5:=za0 k0 5;have s0:=za2 k0;have HIN : Hid _:=zds bks nm;have HR : Hid (za5 (bks.map Bk.pb) ⟨3,nm,ot,at_,va,ep⟩=zce (zag bks nm) (zag bks ot) bks.length (zau (bks.map Bk.pb) (zag bks nm)) ⟨3,nm,ot,at_,va,ep⟩):=zcr bks _
  obtain ⟨f,hf⟩ : ∃ f,zag bks nm=f:=⟨_,rfl⟩
  obtain ⟨g,hg⟩ : ∃ g,zag bks ot=g:=⟨_,rfl⟩
  obtain ⟨o,cap,rfl,hm,hc,-⟩:=r;obtain ⟨o2,cap2,e2,-,hc2,-⟩:=id r0;simp only [Value.slice.injEq] at e2;obtain ⟨rfl,-,rfl⟩:=e2;have HC : Hid _:=zbj hc2;clear hc2;rw [hf] at HIN HR;rw [hg] at HR;have hlen : bks.length<=maxLen:=hm;clear hW0 k0 z0 hc hm
  go_enter Tryz.func139,Tryz.ntmps139
  go_wp2_with fail
  rw [<- HW0.out];clear HW0;refine (zap _ bks nm _ r0).mono ?_;rw [hf];clear hf;rintro e w1 ⟨rfl,rfl⟩;by_cases h1 : f < 0
  · skip
    have HV : Hid (za5 (bks.map Bk.pb) ⟨3,nm,ot,at_,va,ep⟩=2):=by rw [Hid,HR.out,refBy_3,if_pos h1]
    clear HR HC
    go_wp2_with fail
    go_ret;exact ⟨zam HV.out.symm,d0⟩
  obtain ⟨i,hil,hfi,hbk⟩:=HIN.out (by omega);obtain ⟨g0,off,rfl,hg0,a0,a1,a2,a3,a4⟩:=HC.out i hil;obtain ⟨mo,mk,mc,hmf⟩:=hfm bks[i] (List.getElem_mem hil);rw [hbk] at HR;generalize bks[i]=x at a0 a1 a2 a3 a4 hmf HR;obtain ⟨nm0,sz0,m0,rs0,fx0,ep0⟩:=x;simp only [Bk.pb] at a0 a1 a2 a3 a4 hmf HR;subst hmf hfi;have hi0 : (0 : Int)<=(i : Int):=by omega
  have hi1 : (i : Int) < (bks.length : Int):=by omega
  clear HIN hbk hg0;by_cases h4 : ep < ep0
  · skip
    have HV : Hid (za5 (bks.map Bk.pb) ⟨3,nm,ot,at_,va,ep⟩=4):=by rw [Hid,HR.out,refBy_3,if_neg h1,if_pos h4]
    clear HR HC
    go_wp2_with fail
    go_ret;exact ⟨zam HV.out.symm,za3 d0⟩
  cases fx0 with
  | true =>
    have HV : Hid (za5 (bks.map Bk.pb) ⟨3,nm,ot,at_,va,ep⟩=5):=by rw [Hid,HR.out,refBy_3,if_neg h1,if_neg h4,if_pos rfl]
    clear HR HC
    go_wp2_with fail
    go_ret;exact ⟨zam HV.out.symm,za3 d0⟩
  | false =>
    by_cases h6 : sz0<=at_
    · skip
      have HV : Hid (za5 (bks.map Bk.pb) ⟨3,nm,ot,at_,va,ep⟩=6):=by rw [Hid,HR.out,refBy_3,if_neg h1,if_neg h4,if_neg Bool.false_ne_true,if_pos h6]
      clear HR HC
      go_wp2_with fail
      go_ret;exact ⟨zam HV.out.symm,za3 d0⟩
    have HV : Hid (za5 (bks.map Bk.pb) ⟨3,nm,ot,at_,va,ep⟩=0):=by rw [Hid,HR.out,refBy_3,if_neg h1,if_neg h4,if_neg Bool.false_ne_true,if_neg h6]
    clear HR HC
    go_wp2_with fail
    go_ret;exact ⟨zam HV.out.symm,za3 d0⟩
theorem refBy_4 (f g : Int) (n : Nat) (b : Pb) (nm ot : ByteArray) (at_ va ep : Int) : zce f g n b ⟨4,nm,ot,at_,va,ep⟩=(if f < 0 then 2 else if 0<=g then 3 else if n=6 then 7 else 0):=by
  unfold zce;simp only [show kOther 4=true from rfl,show kEpoch 4=false from rfl,show kAt 4=false from rfl];simp
theorem zt6 (v : Value) (bks : List Bk) (nm ot : ByteArray) (at_ va ep : Int) (w : World) (r : ReadsR 5 bookC w.heap.size w v bks) (hfm : ∀ b ∈ bks,∃ o k cp,b.m = .slice o k cp) :
    Calls Tryz.prog 139 #[v,.agg #[.int .i64 4,.string nm,.string ot,.int .i64 at_,.int .i64 va,.int .i64 ep]] w fun e w'=>e = .returned (.int .i64 (za5 (bks.map Bk.pb) ⟨4,nm,ot,at_,va,ep⟩))/\Below w.heap.size w w':=by
  obtain ⟨W0,hW0,k0,d0,z0⟩:=zb4 w #[.int .i64 4,.string nm,.string ot,.int .i64 at_,.int .i64 va,.int .i64 ep] 37;have r0:=(r.below d0).mono d0.size;have HW0 : Hid (W0 = _):=hW0;obtain ⟨p0,p1,p2,p3⟩:=cq4 k0;have p5:=za0 k0 5;have s0:=za2 k0;have HIN : Hid _:=zds bks nm;have HR : Hid (za5 (bks.map Bk.pb) ⟨4,nm,ot,at_,va,ep⟩=zce (zag bks nm) (zag bks ot) bks.length (zau (bks.map Bk.pb) (zag bks nm)) ⟨4,nm,ot,at_,va,ep⟩):=zcr bks _
  obtain ⟨f,hf⟩ : ∃ f,zag bks nm=f:=⟨_,rfl⟩
  obtain ⟨g,hg⟩ : ∃ g,zag bks ot=g:=⟨_,rfl⟩
  obtain ⟨o,cap,rfl,hm,hc,-⟩:=r;obtain ⟨o2,cap2,e2,-,hc2,-⟩:=id r0;simp only [Value.slice.injEq] at e2;obtain ⟨rfl,-,rfl⟩:=e2;have HC : Hid _:=zbj hc2;clear hc2;rw [hf] at HIN HR;rw [hg] at HR;have hlen : bks.length<=maxLen:=hm;clear hW0 k0 z0 hc hm
  go_enter Tryz.func139,Tryz.ntmps139
  go_wp2_with fail
  rw [<- HW0.out];clear HW0;refine (zap _ bks nm _ r0).mono ?_;rw [hf];clear hf;rintro e w1 ⟨rfl,rfl⟩;by_cases h1 : f < 0
  · skip
    have HV : Hid (za5 (bks.map Bk.pb) ⟨4,nm,ot,at_,va,ep⟩=2):=by rw [Hid,HR.out,refBy_4,if_pos h1]
    clear HR HC
    go_wp2_with fail
    go_ret;exact ⟨zam HV.out.symm,d0⟩
  go_wp2_with fail
  refine (zap _ bks ot _ r0).mono ?_;rw [hg];clear hg;rintro e w1 ⟨rfl,rfl⟩;replace h1 : ¬ f < 0:=by omega
  by_cases h3 : 0<=g
  · skip
    have HV : Hid (za5 (bks.map Bk.pb) ⟨4,nm,ot,at_,va,ep⟩=3):=by rw [Hid,HR.out,refBy_4,if_neg h1,if_pos h3]
    clear HR HC
    go_wp2_with fail
    go_ret;exact ⟨zam HV.out.symm,d0⟩
  obtain ⟨i,hil,hfi,hbk⟩:=HIN.out (by omega);obtain ⟨g0,off,rfl,hg0,a0,a1,a2,a3,a4⟩:=HC.out i hil;obtain ⟨mo,mk,mc,hmf⟩:=hfm bks[i] (List.getElem_mem hil);rw [hbk] at HR;generalize bks[i]=x at a0 a1 a2 a3 a4 hmf HR;obtain ⟨nm0,sz0,m0,rs0,fx0,ep0⟩:=x;simp only [Bk.pb] at a0 a1 a2 a3 a4 hmf HR;subst hmf hfi;have hi0 : (0 : Int)<=(i : Int):=by omega
  have hi1 : (i : Int) < (bks.length : Int):=by omega
  clear HIN hbk hg0;by_cases h7 : bks.length=6
  · skip
    have h7e : (bks.length : Int)=6:=by omega
    have h7b : ((bks.length : Int) == 6)=true:=by rw [beq_iff_eq];exact h7e
    have HV : Hid (za5 (bks.map Bk.pb) ⟨4,nm,ot,at_,va,ep⟩=7):=by rw [Hid,HR.out,refBy_4,if_neg h1,if_neg h3,if_pos h7]
    clear HR HC
    go_wp2_with fail
    go_ret;exact ⟨zam HV.out.symm,za3 d0⟩
  have h7e : ¬ (bks.length : Int)=6:=by omega
  have h7b : ((bks.length : Int) == 6)=false:=by rw [beq_eq_false_iff_ne];exact h7e
  have HV : Hid (za5 (bks.map Bk.pb) ⟨4,nm,ot,at_,va,ep⟩=0):=by rw [Hid,HR.out,refBy_4,if_neg h1,if_neg h3,if_neg h7]
  clear HR HC
  go_wp2_with fail
  go_ret;exact ⟨zam HV.out.symm,za3 d0⟩
theorem refBy_5 (f g : Int) (n : Nat) (b : Pb) (nm ot : ByteArray) (at_ va ep : Int) : zce f g n b ⟨5,nm,ot,at_,va,ep⟩=(if f < 0 then 2 else if 0<=g then 3 else if n=6 then 7 else 0):=by
  unfold zce;simp only [show kOther 5=true from rfl,show kEpoch 5=false from rfl,show kAt 5=false from rfl];simp
theorem zt7 (v : Value) (bks : List Bk) (nm ot : ByteArray) (at_ va ep : Int) (w : World) (r : ReadsR 5 bookC w.heap.size w v bks) (hfm : ∀ b ∈ bks,∃ o k cp,b.m = .slice o k cp) :
    Calls Tryz.prog 139 #[v,.agg #[.int .i64 5,.string nm,.string ot,.int .i64 at_,.int .i64 va,.int .i64 ep]] w fun e w'=>e = .returned (.int .i64 (za5 (bks.map Bk.pb) ⟨5,nm,ot,at_,va,ep⟩))/\Below w.heap.size w w':=by
  obtain ⟨W0,hW0,k0,d0,z0⟩:=zb4 w #[.int .i64 5,.string nm,.string ot,.int .i64 at_,.int .i64 va,.int .i64 ep] 37;have r0:=(r.below d0).mono d0.size;have HW0 : Hid (W0 = _):=hW0;obtain ⟨p0,p1,p2,p3⟩:=cq4 k0;have p5:=za0 k0 5;have s0:=za2 k0;have HIN : Hid _:=zds bks nm;have HR : Hid (za5 (bks.map Bk.pb) ⟨5,nm,ot,at_,va,ep⟩=zce (zag bks nm) (zag bks ot) bks.length (zau (bks.map Bk.pb) (zag bks nm)) ⟨5,nm,ot,at_,va,ep⟩):=zcr bks _
  obtain ⟨f,hf⟩ : ∃ f,zag bks nm=f:=⟨_,rfl⟩
  obtain ⟨g,hg⟩ : ∃ g,zag bks ot=g:=⟨_,rfl⟩
  obtain ⟨o,cap,rfl,hm,hc,-⟩:=r;obtain ⟨o2,cap2,e2,-,hc2,-⟩:=id r0;simp only [Value.slice.injEq] at e2;obtain ⟨rfl,-,rfl⟩:=e2;have HC : Hid _:=zbj hc2;clear hc2;rw [hf] at HIN HR;rw [hg] at HR;have hlen : bks.length<=maxLen:=hm;clear hW0 k0 z0 hc hm
  go_enter Tryz.func139,Tryz.ntmps139
  go_wp2_with fail
  rw [<- HW0.out];clear HW0;refine (zap _ bks nm _ r0).mono ?_;rw [hf];clear hf;rintro e w1 ⟨rfl,rfl⟩;by_cases h1 : f < 0
  · skip
    have HV : Hid (za5 (bks.map Bk.pb) ⟨5,nm,ot,at_,va,ep⟩=2):=by rw [Hid,HR.out,refBy_5,if_pos h1]
    clear HR HC
    go_wp2_with fail
    go_ret;exact ⟨zam HV.out.symm,d0⟩
  go_wp2_with fail
  refine (zap _ bks ot _ r0).mono ?_;rw [hg];clear hg;rintro e w1 ⟨rfl,rfl⟩;replace h1 : ¬ f < 0:=by omega
  by_cases h3 : 0<=g
  · skip
    have HV : Hid (za5 (bks.map Bk.pb) ⟨5,nm,ot,at_,va,ep⟩=3):=by rw [Hid,HR.out,refBy_5,if_neg h1,if_pos h3]
    clear HR HC
    go_wp2_with fail
    go_ret;exact ⟨zam HV.out.symm,d0⟩
  obtain ⟨i,hil,hfi,hbk⟩:=HIN.out (by omega);obtain ⟨g0,off,rfl,hg0,a0,a1,a2,a3,a4⟩:=HC.out i hil;obtain ⟨mo,mk,mc,hmf⟩:=hfm bks[i] (List.getElem_mem hil);rw [hbk] at HR;generalize bks[i]=x at a0 a1 a2 a3 a4 hmf HR;obtain ⟨nm0,sz0,m0,rs0,fx0,ep0⟩:=x;simp only [Bk.pb] at a0 a1 a2 a3 a4 hmf HR;subst hmf hfi;have hi0 : (0 : Int)<=(i : Int):=by omega
  have hi1 : (i : Int) < (bks.length : Int):=by omega
  clear HIN hbk hg0;by_cases h7 : bks.length=6
  · skip
    have h7e : (bks.length : Int)=6:=by omega
    have h7b : ((bks.length : Int) == 6)=true:=by rw [beq_iff_eq];exact h7e
    have HV : Hid (za5 (bks.map Bk.pb) ⟨5,nm,ot,at_,va,ep⟩=7):=by rw [Hid,HR.out,refBy_5,if_neg h1,if_neg h3,if_pos h7]
    clear HR HC
    go_wp2_with fail
    go_ret;exact ⟨zam HV.out.symm,za3 d0⟩
  have h7e : ¬ (bks.length : Int)=6:=by omega
  have h7b : ((bks.length : Int) == 6)=false:=by rw [beq_eq_false_iff_ne];exact h7e
  have HV : Hid (za5 (bks.map Bk.pb) ⟨5,nm,ot,at_,va,ep⟩=0):=by rw [Hid,HR.out,refBy_5,if_neg h1,if_neg h3,if_neg h7]
  clear HR HC
  go_wp2_with fail
  go_ret;exact ⟨zam HV.out.symm,za3 d0⟩
theorem refBy_6 (f g : Int) (n : Nat) (b : Pb) (nm ot : ByteArray) (at_ va ep : Int) : zce f g n b ⟨6,nm,ot,at_,va,ep⟩=(if f < 0 then 2 else if ep < b.ep then 4 else 0):=by
  unfold zce;simp only [show kOther 6=false from rfl,show kEpoch 6=true from rfl,show kAt 6=false from rfl];simp
theorem zt8 (v : Value) (bks : List Bk) (nm ot : ByteArray) (at_ va ep : Int) (w : World) (r : ReadsR 5 bookC w.heap.size w v bks) (hfm : ∀ b ∈ bks,∃ o k cp,b.m = .slice o k cp) :
    Calls Tryz.prog 139 #[v,.agg #[.int .i64 6,.string nm,.string ot,.int .i64 at_,.int .i64 va,.int .i64 ep]] w fun e w'=>e = .returned (.int .i64 (za5 (bks.map Bk.pb) ⟨6,nm,ot,at_,va,ep⟩))/\Below w.heap.size w w':=by
  obtain ⟨W0,hW0,k0,d0,z0⟩:=zb4 w #[.int .i64 6,.string nm,.string ot,.int .i64 at_,.int .i64 va,.int .i64 ep] 37;have r0:=(r.below d0).mono d0.size;have HW0 : Hid (W0 = _):=hW0;obtain ⟨p0,p1,p2,p3⟩:=cq4 k0;have p5:=za0 k0 5;have s0:=za2 k0;have HIN : Hid _:=zds bks nm;have HR : Hid (za5 (bks.map Bk.pb) ⟨6,nm,ot,at_,va,ep⟩=zce (zag bks nm) (zag bks ot) bks.length (zau (bks.map Bk.pb) (zag bks nm)) ⟨6,nm,ot,at_,va,ep⟩):=zcr bks _
  obtain ⟨f,hf⟩ : ∃ f,zag bks nm=f:=⟨_,rfl⟩
  obtain ⟨g,hg⟩ : ∃ g,zag bks ot=g:=⟨_,rfl⟩
  obtain ⟨o,cap,rfl,hm,hc,-⟩:=r;obtain ⟨o2,cap2,e2,-,hc2,-⟩:=id r0;simp only [Value.slice.injEq] at e2;obtain ⟨rfl,-,rfl⟩:=e2;have HC : Hid _:=zbj hc2;clear hc2;rw [hf] at HIN HR;rw [hg] at HR;have hlen : bks.length<=maxLen:=hm;clear hW0 k0 z0 hc hm
  go_enter Tryz.func139,Tryz.ntmps139
  go_wp2_with fail
  rw [<- HW0.out];clear HW0;refine (zap _ bks nm _ r0).mono ?_;rw [hf];clear hf;rintro e w1 ⟨rfl,rfl⟩;by_cases h1 : f < 0
  · skip
    have HV : Hid (za5 (bks.map Bk.pb) ⟨6,nm,ot,at_,va,ep⟩=2):=by rw [Hid,HR.out,refBy_6,if_pos h1]
    clear HR HC
    go_wp2_with fail
    go_ret;exact ⟨zam HV.out.symm,d0⟩
  obtain ⟨i,hil,hfi,hbk⟩:=HIN.out (by omega);obtain ⟨g0,off,rfl,hg0,a0,a1,a2,a3,a4⟩:=HC.out i hil;obtain ⟨mo,mk,mc,hmf⟩:=hfm bks[i] (List.getElem_mem hil);rw [hbk] at HR;generalize bks[i]=x at a0 a1 a2 a3 a4 hmf HR;obtain ⟨nm0,sz0,m0,rs0,fx0,ep0⟩:=x;simp only [Bk.pb] at a0 a1 a2 a3 a4 hmf HR;subst hmf hfi;have hi0 : (0 : Int)<=(i : Int):=by omega
  have hi1 : (i : Int) < (bks.length : Int):=by omega
  clear HIN hbk hg0;by_cases h4 : ep < ep0
  · skip
    have HV : Hid (za5 (bks.map Bk.pb) ⟨6,nm,ot,at_,va,ep⟩=4):=by rw [Hid,HR.out,refBy_6,if_neg h1,if_pos h4]
    clear HR HC
    go_wp2_with fail
    go_ret;exact ⟨zam HV.out.symm,za3 d0⟩
  have HV : Hid (za5 (bks.map Bk.pb) ⟨6,nm,ot,at_,va,ep⟩=0):=by rw [Hid,HR.out,refBy_6,if_neg h1,if_neg h4]
  clear HR HC
  go_wp2_with fail
  go_ret;exact ⟨zam HV.out.symm,za3 d0⟩
theorem refBy_7 (f g : Int) (n : Nat) (b : Pb) (nm ot : ByteArray) (at_ va ep : Int) : zce f g n b ⟨7,nm,ot,at_,va,ep⟩=(if f < 0 then 2 else if ep < b.ep then 4 else if b.fx=true then 5 else 0):=by
  unfold zce;simp only [show kOther 7=false from rfl,show kEpoch 7=true from rfl,show kAt 7=false from rfl];simp
theorem zt9 (v : Value) (bks : List Bk) (nm ot : ByteArray) (at_ va ep : Int) (w : World) (r : ReadsR 5 bookC w.heap.size w v bks) (hfm : ∀ b ∈ bks,∃ o k cp,b.m = .slice o k cp) :
    Calls Tryz.prog 139 #[v,.agg #[.int .i64 7,.string nm,.string ot,.int .i64 at_,.int .i64 va,.int .i64 ep]] w fun e w'=>e = .returned (.int .i64 (za5 (bks.map Bk.pb) ⟨7,nm,ot,at_,va,ep⟩))/\Below w.heap.size w w':=by
  obtain ⟨W0,hW0,k0,d0,z0⟩:=zb4 w #[.int .i64 7,.string nm,.string ot,.int .i64 at_,.int .i64 va,.int .i64 ep] 37;have r0:=(r.below d0).mono d0.size;have HW0 : Hid (W0 = _):=hW0;obtain ⟨p0,p1,p2,p3⟩:=cq4 k0;have p5:=za0 k0 5;have s0:=za2 k0;have HIN : Hid _:=zds bks nm;have HR : Hid (za5 (bks.map Bk.pb) ⟨7,nm,ot,at_,va,ep⟩=zce (zag bks nm) (zag bks ot) bks.length (zau (bks.map Bk.pb) (zag bks nm)) ⟨7,nm,ot,at_,va,ep⟩):=zcr bks _
  obtain ⟨f,hf⟩ : ∃ f,zag bks nm=f:=⟨_,rfl⟩
  obtain ⟨g,hg⟩ : ∃ g,zag bks ot=g:=⟨_,rfl⟩
  obtain ⟨o,cap,rfl,hm,hc,-⟩:=r;obtain ⟨o2,cap2,e2,-,hc2,-⟩:=id r0;simp only [Value.slice.injEq] at e2;obtain ⟨rfl,-,rfl⟩:=e2;have HC : Hid _:=zbj hc2;clear hc2;rw [hf] at HIN HR;rw [hg] at HR;have hlen : bks.length<=maxLen:=hm;clear hW0 k0 z0 hc hm
  go_enter Tryz.func139,Tryz.ntmps139
  go_wp2_with fail
  rw [<- HW0.out];clear HW0;refine (zap _ bks nm _ r0).mono ?_;rw [hf];clear hf;rintro e w1 ⟨rfl,rfl⟩;by_cases h1 : f < 0
  · skip
    have HV : Hid (za5 (bks.map Bk.pb) ⟨7,nm,ot,at_,va,ep⟩=2):=by rw [Hid,HR.out,refBy_7,if_pos h1]
    clear HR HC
    go_wp2_with fail
    go_ret;exact ⟨zam HV.out.symm,d0⟩
  obtain ⟨i,hil,hfi,hbk⟩:=HIN.out (by omega);obtain ⟨g0,off,rfl,hg0,a0,a1,a2,a3,a4⟩:=HC.out i hil;obtain ⟨mo,mk,mc,hmf⟩:=hfm bks[i] (List.getElem_mem hil);rw [hbk] at HR;generalize bks[i]=x at a0 a1 a2 a3 a4 hmf HR;obtain ⟨nm0,sz0,m0,rs0,fx0,ep0⟩:=x;simp only [Bk.pb] at a0 a1 a2 a3 a4 hmf HR;subst hmf hfi;have hi0 : (0 : Int)<=(i : Int):=by omega
  have hi1 : (i : Int) < (bks.length : Int):=by omega
  clear HIN hbk hg0;by_cases h4 : ep < ep0
  · skip
    have HV : Hid (za5 (bks.map Bk.pb) ⟨7,nm,ot,at_,va,ep⟩=4):=by rw [Hid,HR.out,refBy_7,if_neg h1,if_pos h4]
    clear HR HC
    go_wp2_with fail
    go_ret;exact ⟨zam HV.out.symm,za3 d0⟩
  cases fx0 with
  | true =>
    have HV : Hid (za5 (bks.map Bk.pb) ⟨7,nm,ot,at_,va,ep⟩=5):=by rw [Hid,HR.out,refBy_7,if_neg h1,if_neg h4,if_pos rfl]
    clear HR HC
    go_wp2_with fail
    go_ret;exact ⟨zam HV.out.symm,za3 d0⟩
  | false =>
    have HV : Hid (za5 (bks.map Bk.pb) ⟨7,nm,ot,at_,va,ep⟩=0):=by rw [Hid,HR.out,refBy_7,if_neg h1,if_neg h4,if_neg Bool.false_ne_true]
    clear HR HC
    go_wp2_with fail
    go_ret;exact ⟨zam HV.out.symm,za3 d0⟩
theorem refBy_8 (f g : Int) (n : Nat) (b : Pb) (nm ot : ByteArray) (at_ va ep : Int) : zce f g n b ⟨8,nm,ot,at_,va,ep⟩=(if f < 0 then 2 else if b.ep=1000 then 8 else 0):=by
  unfold zce;simp only [show kOther 8=false from rfl,show kEpoch 8=false from rfl,show kAt 8=false from rfl];simp
theorem zta (v : Value) (bks : List Bk) (nm ot : ByteArray) (at_ va ep : Int) (w : World) (r : ReadsR 5 bookC w.heap.size w v bks) (hfm : ∀ b ∈ bks,∃ o k cp,b.m = .slice o k cp) :
    Calls Tryz.prog 139 #[v,.agg #[.int .i64 8,.string nm,.string ot,.int .i64 at_,.int .i64 va,.int .i64 ep]] w fun e w'=>e = .returned (.int .i64 (za5 (bks.map Bk.pb) ⟨8,nm,ot,at_,va,ep⟩))/\Below w.heap.size w w':=by
  obtain ⟨W0,hW0,k0,d0,z0⟩:=zb4 w #[.int .i64 8,.string nm,.string ot,.int .i64 at_,.int .i64 va,.int .i64 ep] 37;have r0:=(r.below d0).mono d0.size;have HW0 : Hid (W0 = _):=hW0;obtain ⟨p0,p1,p2,p3⟩:=cq4 k0;have p5:=za0 k0 5;have s0:=za2 k0;have HIN : Hid _:=zds bks nm;have HR : Hid (za5 (bks.map Bk.pb) ⟨8,nm,ot,at_,va,ep⟩=zce (zag bks nm) (zag bks ot) bks.length (zau (bks.map Bk.pb) (zag bks nm)) ⟨8,nm,ot,at_,va,ep⟩):=zcr bks _
  obtain ⟨f,hf⟩ : ∃ f,zag bks nm=f:=⟨_,rfl⟩
  obtain ⟨g,hg⟩ : ∃ g,zag bks ot=g:=⟨_,rfl⟩
  obtain ⟨o,cap,rfl,hm,hc,-⟩:=r;obtain ⟨o2,cap2,e2,-,hc2,-⟩:=id r0;simp only [Value.slice.injEq] at e2;obtain ⟨rfl,-,rfl⟩:=e2;have HC : Hid _:=zbj hc2;clear hc2;rw [hf] at HIN HR;rw [hg] at HR;have hlen : bks.length<=maxLen:=hm;clear hW0 k0 z0 hc hm
  go_enter Tryz.func139,Tryz.ntmps139
  go_wp2_with fail
  rw [<- HW0.out];clear HW0;refine (zap _ bks nm _ r0).mono ?_;rw [hf];clear hf;rintro e w1 ⟨rfl,rfl⟩;by_cases h1 : f < 0
  · skip
    have HV : Hid (za5 (bks.map Bk.pb) ⟨8,nm,ot,at_,va,ep⟩=2):=by rw [Hid,HR.out,refBy_8,if_pos h1]
    clear HR HC
    go_wp2_with fail
    go_ret;exact ⟨zam HV.out.symm,d0⟩
  obtain ⟨i,hil,hfi,hbk⟩:=HIN.out (by omega);obtain ⟨g0,off,rfl,hg0,a0,a1,a2,a3,a4⟩:=HC.out i hil;obtain ⟨mo,mk,mc,hmf⟩:=hfm bks[i] (List.getElem_mem hil);rw [hbk] at HR;generalize bks[i]=x at a0 a1 a2 a3 a4 hmf HR;obtain ⟨nm0,sz0,m0,rs0,fx0,ep0⟩:=x;simp only [Bk.pb] at a0 a1 a2 a3 a4 hmf HR;subst hmf hfi;have hi0 : (0 : Int)<=(i : Int):=by omega
  have hi1 : (i : Int) < (bks.length : Int):=by omega
  clear HIN hbk hg0;by_cases h8 : ep0=1000
  · skip
    have h8b : (ep0 == 1000)=true:=by rw [beq_iff_eq];exact h8
    have HV : Hid (za5 (bks.map Bk.pb) ⟨8,nm,ot,at_,va,ep⟩=8):=by rw [Hid,HR.out,refBy_8,if_neg h1,if_pos h8]
    clear HR HC
    go_wp2_with fail
    go_ret;exact ⟨zam HV.out.symm,za3 d0⟩
  have h8b : (ep0 == 1000)=false:=by rw [beq_eq_false_iff_ne];exact h8
  have HV : Hid (za5 (bks.map Bk.pb) ⟨8,nm,ot,at_,va,ep⟩=0):=by rw [Hid,HR.out,refBy_8,if_neg h1,if_neg h8]
  clear HR HC
  go_wp2_with fail
  go_ret;exact ⟨zam HV.out.symm,za3 d0⟩
theorem refBy_9 (f g : Int) (n : Nat) (b : Pb) (nm ot : ByteArray) (at_ va ep : Int) : zce f g n b ⟨9,nm,ot,at_,va,ep⟩=(if f < 0 then 2 else if b.sz<=at_ then 6 else 0):=by
  unfold zce;simp only [show kOther 9=false from rfl,show kEpoch 9=false from rfl,show kAt 9=true from rfl];simp
theorem ztb (v : Value) (bks : List Bk) (nm ot : ByteArray) (at_ va ep : Int) (w : World) (r : ReadsR 5 bookC w.heap.size w v bks) (hfm : ∀ b ∈ bks,∃ o k cp,b.m = .slice o k cp) :
    Calls Tryz.prog 139 #[v,.agg #[.int .i64 9,.string nm,.string ot,.int .i64 at_,.int .i64 va,.int .i64 ep]] w fun e w'=>e = .returned (.int .i64 (za5 (bks.map Bk.pb) ⟨9,nm,ot,at_,va,ep⟩))/\Below w.heap.size w w':=by
  obtain ⟨W0,hW0,k0,d0,z0⟩:=zb4 w #[.int .i64 9,.string nm,.string ot,.int .i64 at_,.int .i64 va,.int .i64 ep] 37;have r0:=(r.below d0).mono d0.size;have HW0 : Hid (W0 = _):=hW0;obtain ⟨p0,p1,p2,p3⟩:=cq4 k0;have p5:=za0 k0 5;have s0:=za2 k0;have HIN : Hid _:=zds bks nm;have HR : Hid (za5 (bks.map Bk.pb) ⟨9,nm,ot,at_,va,ep⟩=zce (zag bks nm) (zag bks ot) bks.length (zau (bks.map Bk.pb) (zag bks nm)) ⟨9,nm,ot,at_,va,ep⟩):=zcr bks _
  obtain ⟨f,hf⟩ : ∃ f,zag bks nm=f:=⟨_,rfl⟩
  obtain ⟨g,hg⟩ : ∃ g,zag bks ot=g:=⟨_,rfl⟩
  obtain ⟨o,cap,rfl,hm,hc,-⟩:=r;obtain ⟨o2,cap2,e2,-,hc2,-⟩:=id r0;simp only [Value.slice.injEq] at e2;obtain ⟨rfl,-,rfl⟩:=e2;have HC : Hid _:=zbj hc2;clear hc2;rw [hf] at HIN HR;rw [hg] at HR;have hlen : bks.length<=maxLen:=hm;clear hW0 k0 z0 hc hm
  go_enter Tryz.func139,Tryz.ntmps139
  go_wp2_with fail
  rw [<- HW0.out];clear HW0;refine (zap _ bks nm _ r0).mono ?_;rw [hf];clear hf;rintro e w1 ⟨rfl,rfl⟩;by_cases h1 : f < 0
  · skip
    have HV : Hid (za5 (bks.map Bk.pb) ⟨9,nm,ot,at_,va,ep⟩=2):=by rw [Hid,HR.out,refBy_9,if_pos h1]
    clear HR HC
    go_wp2_with fail
    go_ret;exact ⟨zam HV.out.symm,d0⟩
  obtain ⟨i,hil,hfi,hbk⟩:=HIN.out (by omega);obtain ⟨g0,off,rfl,hg0,a0,a1,a2,a3,a4⟩:=HC.out i hil;obtain ⟨mo,mk,mc,hmf⟩:=hfm bks[i] (List.getElem_mem hil);rw [hbk] at HR;generalize bks[i]=x at a0 a1 a2 a3 a4 hmf HR;obtain ⟨nm0,sz0,m0,rs0,fx0,ep0⟩:=x;simp only [Bk.pb] at a0 a1 a2 a3 a4 hmf HR;subst hmf hfi;have hi0 : (0 : Int)<=(i : Int):=by omega
  have hi1 : (i : Int) < (bks.length : Int):=by omega
  clear HIN hbk hg0;by_cases h6 : sz0<=at_
  · skip
    have HV : Hid (za5 (bks.map Bk.pb) ⟨9,nm,ot,at_,va,ep⟩=6):=by rw [Hid,HR.out,refBy_9,if_neg h1,if_pos h6]
    clear HR HC
    go_wp2_with fail
    go_ret;exact ⟨zam HV.out.symm,za3 d0⟩
  have HV : Hid (za5 (bks.map Bk.pb) ⟨9,nm,ot,at_,va,ep⟩=0):=by rw [Hid,HR.out,refBy_9,if_neg h1,if_neg h6]
  clear HR HC
  go_wp2_with fail
  go_ret;exact ⟨zam HV.out.symm,za3 d0⟩
theorem zbm (v : Value) (bks : List Bk) (k : Int) (nm ot : ByteArray) (at_ va ep : Int) (w : World) (hk : 1<=k/\k<=9) (r : ReadsR 5 bookC w.heap.size w v bks) (hfm : ∀ b ∈ bks,∃ o k cp,b.m = .slice o k cp) :
    Calls Tryz.prog 139 #[v,.agg #[.int .i64 k,.string nm,.string ot,.int .i64 at_,.int .i64 va,.int .i64 ep]] w fun e w'=>e = .returned (.int .i64 (za5 (bks.map Bk.pb) ⟨k,nm,ot,at_,va,ep⟩))/\Below w.heap.size w w':=by
  have h : k=1\/k=2\/k=3\/k=4\/k=5\/k=6\/k=7\/k=8\/k=9:=by omega
  rcases h with rfl | rfl | rfl | rfl | rfl | rfl | rfl | rfl | rfl
  · exact zt3 v bks nm ot at_ va ep w r hfm
  · exact zt4 v bks nm ot at_ va ep w r hfm
  · exact zt5 v bks nm ot at_ va ep w r hfm
  · exact zt6 v bks nm ot at_ va ep w r hfm
  · exact zt7 v bks nm ot at_ va ep w r hfm
  · exact zt8 v bks nm ot at_ va ep w r hfm
  · exact zt9 v bks nm ot at_ va ep w r hfm
  · exact zta v bks nm ot at_ va ep w r hfm
  · exact ztb v bks nm ot at_ va ep w r hfm
end Go.Proofs.YtfkkapdofjhgpaaGreatDoor
