import Derived.Deep.RegionHeld3
import Derived.Test.YtfkkapdofjhgpaaGreatDoorM06
import Derived.Test.YtfkkapdofjhgpaaGreatDoorM17
import Derived.Test.YtfkkapdofjhgpaaGreatDoorM29
import Derived.Test.YtfkkapdofjhgpaaGreatDoorM31
set_option maxHeartbeats 12800000
namespace Go.Proofs.YtfkkapdofjhgpaaGreatDoor
open Go.RowKit
set_option linter.unusedVariables false
set_option maxRecDepth 100000
theorem OwnP.answer {base c : Nat} {W W' : World} {v1 v2 : Value} {cs ps : List Int} {xs : Array Value} (h : OwnP base W v1 v2 cs ps) (k : W.heap[c]? = some (.cells xs 27 (0,0))) (u : Upto c W W') : OwnP base W' v1 v2 cs ps:=by
  have st : ∀ (v : Value) (n : Nat) (xs : List Value),W.ownsRow base 2 1 v n xs->W'.ownsRow base 2 1 v n xs:=fun v n xs hr=>zai hr (fun q hq hqv=>u.block q hq (fun hx=>zaa hr k (by decide) (by rw [<- hx];exact hqv)))
  exact ⟨st _ _ _ h.c,st _ _ _ h.p,h.apart⟩
theorem zm6 (s : List Int × List Int) (l : List Int) (j : Nat) (h : j < l.length) : zax s (l.take (j+1))=(shared (zax s (l.take j)).1 (zax s (l.take j)).2 (l.getD j 0)).1:=by
  rw [zax,List.take_succ_eq_append_getElem h,List.foldl_append,ze9 l j h];rfl
theorem zmv (base : Nat) (v1 v2 vl : Value) (cs ps l : List Int) (w : World) (hbase : base<=w.heap.size) (own : OwnP base w v1 v2 cs ps) (r : Reads w.heap.size w vl (l.map (Value.int .i64))) :
    Calls Tryz.prog 264 #[.agg #[v1,v2],vl] w fun e w'=>∃ u1 u2 : Value,e = .returned (.agg #[u1,u2])/\OwnP base w' u1 u2 (zax (cs,ps) l).1 (zax (cs,ps) l).2/\Below w.heap.size w w':=by
  obtain ⟨o1,k1,o2,k2,rfl,rfl⟩:=own.forms;obtain ⟨W0,hW0,kA,kR,d0,z0⟩:=zc7 w #[.slice o1 cs.length k1,.slice o2 ps.length k2] #[.slice none 0 0,.slice none 0 0] 27 27;have HW0 : Hid (W0 = _):=hW0;have own0:=own.below d0;obtain ⟨o,cap,rfl,hm,hc,-⟩:=r;have C1 : Hid _:=zp7 hc;simp only [List.length_map] at hm ⊢;unfold maxLen at hm;have zz : w.heap.size+1 < W0.heap.size:=by omega
  have hb0:=d0.size;clear hW0 z0 own hc
  go_enter Tryz.func264,Tryz.ntmps264
  go_wp2_with fail
  rw [<- HW0.out];clear HW0
  go_loopw [9] (fun i wr=>∃ (j : Nat) (u1 u2 : Value),j<=l.length/\i = .int .i64 j/\wr.heap[w.heap.size]? = some (.cells #[u1,u2] 27 (0,0))/\wr.heap[w.heap.size+1]? = some (.cells #[.slice none 0 0,.slice none 0 0] 27 (0,0))/\OwnP base wr u1 u2 (zax (cs,ps) (l.take j)).1 (zax (cs,ps) (l.take j)).2/\Below w.heap.size w wr) (fun i _=>l.length - (intOf i).toNat)
  case atStart=>exact ⟨0,_,_,Nat.zero_le _,rfl,kA,kR,own0,d0⟩
  case round =>
    clear kA kR own0;obtain ⟨j,u1,u2,hj,rfl,kA,kR,own,hb⟩:=hrel;obtain ⟨q1,c1,q2,c2,e1,e2⟩:=own.forms;subst e1 e2;by_cases hlt : j < l.length
    · obtain ⟨g,off,hg,hgl,cc⟩:=C1.out j hlt
      subst hg;have HT : Hid _:=zm6 (cs,ps) l j hlt;replace cc:=(hb.cell (p:=⟨g,off+j,none⟩) hgl).trans cc;generalize l.getD j 0=p at *;generalize zax (cs,ps) (l.take j)=S at *;obtain ⟨sc,sp⟩:=S;simp only at own HT kA;obtain ⟨p0,p1⟩:=cq2 kA;have t0 : (0 : Int)<=(j : Int):=by omega
      have t1 : (j : Int) < (l.length : Int):=by omega
      go_wp2_with fail
      clear p0 p1 cc;refine (zm5 _ _ sc sp p _ own.r1 own.r2).mono ?_;rintro e w2 ⟨x1,x2,rfl,ow,b2⟩;obtain ⟨y1,d1,y2,d2,e1,e2⟩:=ow.forms;subst e1 e2;have kA2:=kb0 b2 kA;have kR2:=kb0 b2 kR;have sz:=hb.size;have lA:=za2 kA;have hs:=zcp kA2 (.slice y1 (shared sc sp p).1.1.length d1) (.slice y2 (shared sc sp p).1.2.length d2);have kR3:=(hs.2.block _ (za2 kR2) (by omega)).trans kR2;have ow3:=(ow.upto hs.2 (by omega)).mono (show base<=wr.heap.size by omega);have hb3:=(za1 hb b2).trans (hs.2.toBelow (by have:=b2.size;omega) (Nat.le_refl _));have HO : Hid _:=And.intro hs.1 (And.intro kR3 (And.intro ow3 hb3));have q0:=za0 kA2 0;have q1':=za0 kA2 1;obtain ⟨f0,f1⟩:=oq2 kA2;clear hs kR3 ow3 hb3 kA2 kR2 kA kR own ow b2 hb
      go_wp2_with fail
      go_roundw
      case rel=>exact ⟨j+1,_,_,by omega,by go_num,HO.out.1,HO.out.2.1,by rw [HT.out];exact HO.out.2.2.1,HO.out.2.2.2⟩
      case measure=>simp [intOf] <;> omega
    · have htk : l.take j=l:=List.take_of_length_le (by omega)
      rw [htk] at own kA;have hql : ¬ (j : Int) < (l.length : Int):=by omega
      have hs:=zcp kR (.slice q1 (zax (cs,ps) l).1.length c1) (.slice q2 (zax (cs,ps) l).2.length c2);have ow4:=own.answer kR hs.2;have HS : Hid _:=And.intro hs.1 (And.intro ow4 (hb.trans (hs.2.toBelow hb.size (by omega))));clear hs ow4;obtain ⟨p0,p1⟩:=cq2 kA;have q0:=za0 kR 0;have q1':=za0 kR 1;obtain ⟨f0,f1⟩:=oq2 kR;clear htk own kA kR hb
      go_wp2_with fail
      exact bodyPost_ret (v:=.agg #[.slice q1 (zax (cs,ps) l).1.length c1,.slice q2 (zax (cs,ps) l).2.length c2]) (by simp [results,Tryz.results264,go_sem,za0 HS.out.1]) rfl ⟨_,_,rfl,HS.out.2⟩
theorem zkf (s : List Int × List Int) (l : List Int) (j : Nat) (h : j < l.length) : zaj s (l.take (j+1))=(dropped (zaj s (l.take j)).1 (zaj s (l.take j)).2 (l.getD j 0)).1:=by
  rw [zaj,List.take_succ_eq_append_getElem h,List.foldl_append,ze9 l j h];rfl
theorem zh4 (base : Nat) (v1 v2 vl : Value) (cs ps l : List Int) (w : World) (hbase : base<=w.heap.size) (own : OwnP base w v1 v2 cs ps) (r : Reads w.heap.size w vl (l.map (Value.int .i64))) :
    Calls Tryz.prog 266 #[.agg #[v1,v2],vl] w fun e w'=>∃ u1 u2 : Value,e = .returned (.agg #[u1,u2])/\OwnP base w' u1 u2 (zaj (cs,ps) l).1 (zaj (cs,ps) l).2/\Below w.heap.size w w':=by
  obtain ⟨o1,k1,o2,k2,rfl,rfl⟩:=own.forms;obtain ⟨W0,hW0,kA,kR,d0,z0⟩:=zc7 w #[.slice o1 cs.length k1,.slice o2 ps.length k2] #[.slice none 0 0,.slice none 0 0] 27 27;have HW0 : Hid (W0 = _):=hW0;have own0:=own.below d0;obtain ⟨o,cap,rfl,hm,hc,-⟩:=r;have C1 : Hid _:=zp7 hc;simp only [List.length_map] at hm ⊢;unfold maxLen at hm;have zz : w.heap.size+1 < W0.heap.size:=by omega
  have hb0:=d0.size;clear hW0 z0 own hc
  go_enter Tryz.func266,Tryz.ntmps266
  go_wp2_with fail
  rw [<- HW0.out];clear HW0
  go_loopw [9] (fun i wr=>∃ (j : Nat) (u1 u2 : Value),j<=l.length/\i = .int .i64 j/\wr.heap[w.heap.size]? = some (.cells #[u1,u2] 27 (0,0))/\wr.heap[w.heap.size+1]? = some (.cells #[.slice none 0 0,.slice none 0 0] 27 (0,0))/\OwnP base wr u1 u2 (zaj (cs,ps) (l.take j)).1 (zaj (cs,ps) (l.take j)).2/\Below w.heap.size w wr) (fun i _=>l.length - (intOf i).toNat)
  case atStart=>exact ⟨0,_,_,Nat.zero_le _,rfl,kA,kR,own0,d0⟩
  case round =>
    clear kA kR own0;obtain ⟨j,u1,u2,hj,rfl,kA,kR,own,hb⟩:=hrel;obtain ⟨q1,c1,q2,c2,e1,e2⟩:=own.forms;subst e1 e2;by_cases hlt : j < l.length
    · obtain ⟨g,off,hg,hgl,cc⟩:=C1.out j hlt
      subst hg;have HT : Hid _:=zkf (cs,ps) l j hlt;replace cc:=(hb.cell (p:=⟨g,off+j,none⟩) hgl).trans cc;generalize l.getD j 0=p at *;generalize zaj (cs,ps) (l.take j)=S at *;obtain ⟨sc,sp⟩:=S;simp only at own HT kA;obtain ⟨p0,p1⟩:=cq2 kA;have t0 : (0 : Int)<=(j : Int):=by omega
      have t1 : (j : Int) < (l.length : Int):=by omega
      go_wp2_with fail
      clear p0 p1 cc;refine (zgi _ _ sc sp p _ own.r1 own.r2).mono ?_;rintro e w2 ⟨x1,x2,rfl,ow,b2⟩;obtain ⟨y1,d1,y2,d2,e1,e2⟩:=ow.forms;subst e1 e2;have kA2:=kb0 b2 kA;have kR2:=kb0 b2 kR;have sz:=hb.size;have lA:=za2 kA;have hs:=zcp kA2 (.slice y1 (dropped sc sp p).1.1.length d1) (.slice y2 (dropped sc sp p).1.2.length d2);have kR3:=(hs.2.block _ (za2 kR2) (by omega)).trans kR2;have ow3:=(ow.upto hs.2 (by omega)).mono (show base<=wr.heap.size by omega);have hb3:=(za1 hb b2).trans (hs.2.toBelow (by have:=b2.size;omega) (Nat.le_refl _));have HO : Hid _:=And.intro hs.1 (And.intro kR3 (And.intro ow3 hb3));have q0:=za0 kA2 0;have q1':=za0 kA2 1;obtain ⟨f0,f1⟩:=oq2 kA2;clear hs kR3 ow3 hb3 kA2 kR2 kA kR own ow b2 hb
      go_wp2_with fail
      go_roundw
      case rel=>exact ⟨j+1,_,_,by omega,by go_num,HO.out.1,HO.out.2.1,by rw [HT.out];exact HO.out.2.2.1,HO.out.2.2.2⟩
      case measure=>simp [intOf] <;> omega
    · have htk : l.take j=l:=List.take_of_length_le (by omega)
      rw [htk] at own kA;have hql : ¬ (j : Int) < (l.length : Int):=by omega
      have hs:=zcp kR (.slice q1 (zaj (cs,ps) l).1.length c1) (.slice q2 (zaj (cs,ps) l).2.length c2);have ow4:=own.answer kR hs.2;have HS : Hid _:=And.intro hs.1 (And.intro ow4 (hb.trans (hs.2.toBelow hb.size (by omega))));clear hs ow4;obtain ⟨p0,p1⟩:=cq2 kA;have q0:=za0 kR 0;have q1':=za0 kR 1;obtain ⟨f0,f1⟩:=oq2 kR;clear htk own kA kR hb
      go_wp2_with fail
      exact bodyPost_ret (v:=.agg #[.slice q1 (zaj (cs,ps) l).1.length c1,.slice q2 (zaj (cs,ps) l).2.length c2]) (by simp [results,Tryz.results266,go_sem,za0 HS.out.1]) rfl ⟨_,_,rfl,HS.out.2⟩
theorem OwnS.away {base c : Nat} {W W' : World} {v1 v2 vb : Value} {cs ps : List Int} {bks : List Bk} {xs : Array Value} (h : OwnS base W v1 v2 vb cs ps bks) (k : W.heap[c]? = some (.cells xs 117 (0,0))) (u : Upto c W W') (hv : ∀ q,vb.ownBlock=some q->q ≠ c) : OwnS base W' v1 v2 vb cs ps bks:=by
  have st : ∀ (e : TypeId) (kk n : Nat) (v : Value) (xs : List Value),117 ≠ e->W.ownsRow base e kk v n xs->W'.ownsRow base e kk v n xs:=fun e kk n v xs he hr=>zai hr (fun q hq hqv=>u.block q hq (fun hx=>zaa hr k he (by rw [<- hx];exact hqv)))
  exact ⟨⟨st _ _ _ _ _ (by decide) h.p.c,st _ _ _ _ _ (by decide) h.p.p,h.p.apart⟩,⟨zai h.b.row (fun q hq hqv=>u.block q hq (hv q hqv)),fun b hb=>st _ _ _ _ _ (by decide) (h.b.maps b hb)⟩,h.a⟩
theorem zir {W : World} {c : Nat} {x0 x1 x2 : Value} {T : TypeId} (k : W.heap[c]? = some (.cells #[x0,x1,x2] T (0,0))) (y0 y1 : Value) :
    ((W.setCell ⟨c,0,none⟩ y0).setCell ⟨c,1,none⟩ y1).heap[c]? = some (.cells #[y0,y1,x2] T (0,0))/\Upto c W ((W.setCell ⟨c,0,none⟩ y0).setCell ⟨c,1,none⟩ y1) :=
  ⟨zab (zab k 0 y0) 1 y1,((Upto.refl _ _).setCell ⟨c,0,none⟩ (.inl rfl) _).setCell ⟨c,1,none⟩ (.inl rfl) _⟩
theorem zy8 {W : World} {c : Nat} {x0 x1 x2 x3 x4 : Value} {T : TypeId} (k : W.heap[c]? = some (.cells #[x0,x1,x2,x3,x4] T (0,0))) (y : Value) :
    (W.setCell ⟨c,2,none⟩ y).heap[c]? = some (.cells #[x0,x1,y,x3,x4] T (0,0))/\Upto c W (W.setCell ⟨c,2,none⟩ y) :=
  ⟨zab k 2 y,(Upto.refl _ _).setCell ⟨c,2,none⟩ (.inl rfl) _⟩
theorem zjy (base i : Nat) (place page : Int) (v1 v2 vb : Value) (cs ps : List Int) (bks : List Bk) (w : World) (hbase : base<=w.heap.size) (hi : i < bks.length) (hl : bks.length<=6) (hfit : zb9 bks[i].rs) (own : OwnS base w v1 v2 vb cs ps bks) :
    Calls Tryz.prog 236 #[.agg #[v1,v2,vb],.int .i64 i,.int .i64 place,.int .i64 page] w fun e w'=>∃ u1 u2 ub m : Value,e = .returned (.agg #[u1,u2,ub])/\OwnS base w' u1 u2 ub (dropped cs ps (pageOf bks[i].rs place)).1.1 (dropped cs ps (pageOf bks[i].rs place)).1.2 (bks.set i ⟨bks[i].nm,bks[i].sz,m,(mapped bks[i].rs place page).1,bks[i].fx,bks[i].ep⟩)/\Below w.heap.size w w':=by
  obtain ⟨o1,k1,o2,k2,ob,kb,rfl,rfl,rfl⟩:=own.forms;obtain ⟨g,cap,hvb⟩:=own.b.at i hi;cases hvb;obtain ⟨W0,hW0,kA,kR,d0,z0⟩:=zc7 w #[.slice o1 cs.length k1,.slice o2 ps.length k2,.slice (some ⟨g,0,none⟩) bks.length kb] #[.slice none 0 0,.slice none 0 0,.slice none 0 0] 30 30;have own0:=own.below d0;have hmi:=own0.b.maps _ (List.getElem_mem hi);obtain ⟨⟨a0,a1,a2,a3,a4⟩,-⟩:=zaz own0.b.row i hi;have hg0 : g < W0.heap.size:=(own0.b.row.lt g rfl).2
  obtain ⟨x,hx⟩ : ∃ x,bks[i]=x:=⟨_,rfl⟩
  have hmem : x ∈ bks:=hx ▸ List.getElem_mem hi;rw [hx] at hmi hfit a0 a1 a2 a3 a4 ⊢;clear hx;obtain ⟨xn,xs,xm,xr,xf,xe⟩:=x;simp only at hmi hfit a0 a1 a2 a3 a4 ⊢;obtain ⟨om,cm,hxm⟩:=za4 hmi;subst hxm;have HM : Hid ((⟨xn,xs,.slice om xr.length cm,xr,xf,xe⟩ : Bk) ∈ bks):=hmem;clear hmem;obtain ⟨W1,hW1,kB,d1,z1⟩:=zb4 W0 #[.string xn,.int .i64 xs,.slice om xr.length cm,.bool xf,.int .i64 xe] 117;have hW1b:=hW1;rw [hW0] at hW1b;have HW1 : Hid (W1 = _):=hW1b;have pA:=za0 kA 2;have own1 : OwnS base W1.drew _ _ _ cs ps bks:=(own0.below d1).below ((Below.refl _ _).drew);have rm1 : ReadsR 3 zak W1.drew.heap.size W1.drew (.slice om xr.length cm) xr:=ReadsR.of_own zat (za9 (za9 hmi d1) ((Below.refl _ _).drew));have kA1:=kb0 d1 kA;have kR1:=kb0 d1 kR;have S0 : W1.drew.cell? ⟨w.heap.size,0,none⟩=some (.slice o1 cs.length k1):=za0 kA1 0;have S1 : W1.drew.cell? ⟨w.heap.size,1,none⟩=some (.slice o2 ps.length k2):=za0 kA1 1;rw [z0] at kB;have T2 : W1.drew.cell? ⟨w.heap.size+1+1,2,none⟩=some (.slice om xr.length cm):=za0 kB 2;have dW:=za1 d0 d1;have zz : w.heap.size+1+1 < W1.heap.size:=by omega
  have zg : g < w.heap.size+1+1:=by omega
  have i0 : (0 : Int)<=(i : Int):=by omega
  have i1 : (i : Int) < (bks.length : Int):=by omega
  rw [hW0] at pA a0 a1 a2 a3 a4;clear hW1 hW1b z1 own own0 hmi d1 kA kR hW0 z0 d0 hg0;have hdr : ∀ (v1 v2 : Value) (w : World) (h1 : Reads w.heap.size w v1 (cs.map (Value.int .i64))) (h2 : Reads w.heap.size w v2 (ps.map (Value.int .i64))),_:=fun v1 v2 w h1 h2=>zgi v1 v2 cs ps (pageOf xr place) w h1 h2
  obtain ⟨D,hD⟩ : ∃ D,dropped cs ps (pageOf xr place)=D:=⟨_,rfl⟩
  simp only [hD] at hdr ⊢;have hmp : ∀ (v : Value) (w : World) (r : ReadsR 3 zak w.heap.size w v xr),_:=fun v w r=>zm1 v xr place page w hfit r
  obtain ⟨M,hM⟩ : ∃ M,mapped xr place page=M:=⟨_,rfl⟩
  simp only [hM] at hmp ⊢;clear hD hM;obtain ⟨⟨D1,D2⟩,D3⟩:=D;obtain ⟨M1,M2⟩:=M;simp only at hdr hmp ⊢
  go_enter Tryz.func236,Tryz.ntmps236
  go_upto_region 2 with fail
  rw [<- HW1.out];clear HW1 pA a0 a1 a2 a3 a4
  go_region_law (first
      | (go_simp;go_at_call 258;refine (zf6 _ xr place _ hfit rm1).mono ?_;rintro e w5 ⟨rfl,b5⟩;have kA5:=kb0 b5 kA1;have kR5:=kb0 b5 kR1;have kB5:=kb0 b5 kB;have own5:=own1.below b5;have A0:=za0 kA5 0;have A1:=za0 kA5 1;dsimp only)
      | (go_simp;go_at_call 261;refine (hdr _ _ _ own5.p.r1 own5.p.r2).mono ?_;rintro e w6 ⟨u1,u2,rfl,ow6,b6⟩;obtain ⟨y1,d1,y2,d2,e1,e2⟩:=ow6.forms;subst e1 e2;have kA6:=kb0 b6 kA5;have kR6:=kb0 b6 kR5;have kB6:=kb0 b6 kB5;have own6:=own5.below b6;have q0:=za0 kA6 0;have q1:=za0 kA6 1;have f0:=za8 kA6 0;have f1:=za8 kA6 1;dsimp only))
  all_goals
    have hs:=zir kA6 (.slice y1 D1.length d1) (.slice y2 D2.length d2);have sz5:=b5.size;have sz6:=b6.size;have szd : W1.drew.heap.size=W1.heap.size:=rfl
    have own7 : OwnS base w6 (.slice y1 D1.length d1) (.slice y2 D2.length d2) (.slice (some ⟨g,0,none⟩) bks.length kb) D1 D2 bks:=⟨ow6.mono (by omega),own6.b,own6.a⟩
    replace own7:=own7.answer kA6 hs.2;have kR7:=(hs.2.block _ (za2 kR6) (by omega)).trans kR6;have kB7:=(hs.2.block _ (za2 kB6) (by omega)).trans kB6;have d7:=(za1 (za1 (zar dW) b5) b6).trans (hs.2.toBelow (by omega) (Nat.le_refl _));have sz7:=hs.2.size;replace hs:=hs.1
    obtain ⟨W2,hW2⟩ : ∃ W2,W2=(w6.setCell ⟨w.heap.size,0,none⟩ (.slice y1 D1.length d1)).setCell ⟨w.heap.size,1,none⟩ (.slice y2 D2.length d2):=⟨_,rfl⟩
    rw [<- hW2] at hs own7 kR7 kB7 d7 sz7 ⊢;have hm7 : ReadsR 3 zak W2.heap.size W2 (.slice om xr.length cm) xr:=ReadsR.of_own zat (own7.b.maps _ HM.out);have T2:=za0 kB7 2;clear hW2 q0 q1 f0 f1 A0 A1 kA5 kA6 kR5 kR6 kB5 kB6 own5 own6 ow6 b5 b6 rm1 kA1 kR1 kB S0 S1 own1 dW
    go_wp2_with fail
    refine (hmp _ _ hm7).mono ?_;rintro e w8 ⟨m',rfl,om8,-,b8⟩;have hap:=apart_new own7.b (Nat.le_refl _) (fun q hq=>(om8.lt q hq).1) i;obtain ⟨om',cm',hm'⟩:=za4 om8;subst hm';have kA8:=kb0 b8 hs;have kR8:=kb0 b8 kR7;have kB8:=kb0 b8 kB7;have lA:=za2 kA8;have lR:=za2 kR8;have sz8:=b8.size;have hp:=zy8 kB8 (.slice om' M1.length cm');have own9:=(own7.below b8).away kB8 hp.2 (fun q hq=>by cases hq;show g ≠ w.heap.size+1+1;omega);have om9 : World.ownsRow _ base 172 3 (.slice om' M1.length cm') M1.length (M1.flatMap zak):=zah (zbc om8 hp.2 (by omega)) (by omega);have kA9:=(hp.2.block _ lA (by omega)).trans kA8;have kR9:=(hp.2.block _ lR (by omega)).trans kR8;have d9:=(za1 d7 b8).trans (hp.2.toBelow (by omega) (by omega));have sz9:=hp.2.size;have kB9:=hp.1;have f2:=za8 kB8 2;have q2:=za0 kB8 2
    obtain ⟨W3,hW3⟩ : ∃ W3,W3=w8.setCell ⟨w.heap.size+1+1,2,none⟩ (.slice om' M1.length cm'):=⟨_,rfl⟩
    rw [<- hW3] at own9 om9 kA9 kR9 kB9 d9 sz9;have HW3 : Hid (W3 = _):=hW3;have hb9 : base<=W3.heap.size:=by omega
    clear hW3 hp hs kA8 kR8 kB8 kR7 kB7 own7 om8 b8 T2 hm7 d7
    go_upto_region 4 with fail
    rw [<- HW3.out];clear HW3 f2 q2;obtain ⟨S0,S1,S2⟩:=cq3 kA9;obtain ⟨T0,T1,T2,T3,T4⟩:=cq5 kB9
    go_wp2_with fail
    refine (zh3 base i _ _ _ D1 D2 bks ⟨xn,xs,.slice om' M1.length cm',M1,xf,xe⟩ _ hb9 hi hl own9 om9 hap).mono ?_;rintro e w6 ⟨ub,rfl,ow,b6⟩;obtain ⟨_,_,_,_,o6,c6,-,-,hub⟩:=ow.forms;rw [List.length_set] at hub;subst hub;have kR6:=kb0 b6 kR9;have HS : Hid _:=zaq (w:=w) kR6 (by omega) (za1 d9 b6) (.slice y1 D1.length d1) (.slice y2 D2.length d2) (.slice o6 bks.length c6);have HF : Hid _:=OwnS.answer ow kR6 HS.out.2.1;obtain ⟨r0,r1,r2⟩:=cq3 kR6;obtain ⟨e0,e1,e2⟩:=oq3 kR6;clear ow b6 kR6 own9 om9 kA9 kR9 kB9 S0 S1 S2 T0 T1 T2 T3 T4 d9
    go_wp2_with fail
    exact bodyPost_ret (v:=.agg #[.slice y1 D1.length d1,.slice y2 D2.length d2,.slice o6 bks.length c6]) (by simp [results,Tryz.results236,go_sem,za0 HS.out.1]) rfl ⟨_,_,_,_,rfl,⟨HF.out.1,HF.out.2,HF.out.3⟩,HS.out.2.2⟩
def zs4 (ad : Nat->Addr) (base i : Nat) (bks : List Bk) (b : Bk) (X : Option ((List Int × List Int) × List (Int × Int × Int))) (e : Ending) (w' : World) : Prop :=
  match X with
  | none=>e = .returned (.tuple #[.agg #[.slice none 0 0,.slice none 0 0,.slice none 0 0],refErr ad 9])
  | some X=>∃ u1 u2 ub m : Value,e = .returned (.tuple #[.agg #[u1,u2,ub],.nilIface])/\OwnS base w' u1 u2 ub X.1.1 X.1.2 (bks.set i ⟨b.nm,b.sz,m,X.2,b.fx,b.ep⟩)
theorem zq7 {cs : List Int} {p : Int} (h : zas cs p=1) : ∃ k : Nat,p=k/\k < cs.length:=by
  unfold zas at h
  split at h
  · rename_i q
    exact ⟨p.toNat,by omega,by omega⟩
  · cases h
theorem zq8 (base i : Nat) (v1 v2 vb : Value) (cs ps : List Int) (bks : List Bk) (k : Int) (nm ot : ByteArray) (at_ va ep : Int) (w : World) (ad : Nat->Addr) (hv : Vars w ad) (hbase : base<=w.heap.size) (hi : i < bks.length) (hl : bks.length<=6) (hlen : cs.length=ps.length) (hc : cs.length<=1048576) (hfit : zb9 bks[i].rs) (own : OwnS base w v1 v2 vb cs ps bks) :
    Calls Tryz.prog 235 #[.agg #[v1,v2,vb],.int .i64 i,.agg #[.int .i64 k,.string nm,.string ot,.int .i64 at_,.int .i64 va,.int .i64 ep]] w fun e w'=>zs4 ad base i bks bks[i] (writtenS cs ps bks[i].rs at_ va) e w'/\Below w.heap.size w w':=by
  have hput : ∀ (page : Int) (v1 v2 vb : Value) (cs ps : List Int) (w : World) (hbase : base<=w.heap.size) (own : OwnS base w v1 v2 vb cs ps bks),_:=fun page v1 v2 vb cs ps w hbase own=>zjy base i at_ page v1 v2 vb cs ps bks w hbase hi hl hfit own
  obtain ⟨o1,k1,o2,k2,ob,kb,rfl,rfl,rfl⟩:=own.forms;obtain ⟨g,cap,hvb⟩:=own.b.at i hi;cases hvb;obtain ⟨W0,hW0,kA,kO,kR,d0,z0⟩:=zg0 w #[.slice o1 cs.length k1,.slice o2 ps.length k2,.slice (some ⟨g,0,none⟩) bks.length kb] #[.int .i64 k,.string nm,.string ot,.int .i64 at_,.int .i64 va,.int .i64 ep] #[.slice none 0 0,.slice none 0 0,.slice none 0 0] 30 37 30;have own0:=own.below d0;have hmi:=own0.b.maps _ (List.getElem_mem hi);obtain ⟨⟨a0,a1,a2,a3,a4⟩,-⟩:=zaz own0.b.row i hi;have HSE : Hid (∀ y : Bk,y=bks[i]->bks.set i y=bks):=fun y hy=>by rw [hy,List.set_getElem_self]
  obtain ⟨x,hx⟩ : ∃ x,bks[i]=x:=⟨_,rfl⟩
  rw [hx] at hmi hfit a2 HSE ⊢;simp only [hx] at hput;clear hx a0 a1 a3 a4;obtain ⟨xn,xs,xm,xr,xf,xe⟩:=x;simp only at hmi hfit a2 hput ⊢;obtain ⟨om,cm,hxm⟩:=za4 hmi;subst hxm;have HW0 : Hid (W0 = _):=hW0;have rm : ReadsR 3 zak W0.drew.heap.size W0.drew (.slice om xr.length cm) xr:=ReadsR.of_own zat (za9 hmi ((Below.refl _ _).drew));have ownd : OwnS base W0.drew _ _ _ cs ps bks:=own0.below ((Below.refl _ _).drew);have hvd : Vars W0.drew ad:=(hv.below d0).below ((Below.refl _ _).drew);have pA : W0.drew.cell? ⟨w.heap.size,2,none⟩=some (.slice (some ⟨g,0,none⟩) bks.length kb):=za0 kA 2;have pO : W0.drew.cell? ⟨w.heap.size+1,3,none⟩=some (.int .i64 at_):=za0 kO 3;have pM : W0.drew.cell? ⟨g,i * 5+2,none⟩=some (.slice om xr.length cm):=a2;have i0 : (0 : Int)<=(i : Int):=by omega
  have i1 : (i : Int) < (bks.length : Int):=by omega
  have zb : base<=W0.heap.size:=by omega
  have zr : w.heap.size+1+1 < W0.heap.size:=by omega
  have HLEN : Hid (cs.length=ps.length):=hlen;have HG : Hid (11 < w.heap.size):=zf8 (hv.cell 11 (by decide));have HFX : Hid (zb9 xr):=hfit;have dd:=zar d0;clear hW0 z0 own own0 hmi hv hlen hfit a2 d0
  go_enter Tryz.func235,Tryz.ntmps235
  go_wp2_with fail
  rw [<- HW0.out];clear HW0;have hpo : ∀ (w : World) (r : ReadsR 3 zak w.heap.size w (.slice om xr.length cm) xr),_:=fun w r=>zf6 _ xr at_ w HFX.out r
  obtain ⟨p,hpp⟩ : ∃ p,pageOf xr at_=p:=⟨_,rfl⟩
  have HPP : Hid (pageOf xr at_=p):=hpp;simp only [hpp] at hpo hput;clear hpp
  have HK0 : ∀ W',Below W0.heap.size W0 W'->(W'.cell? ⟨w.heap.size,2,none⟩=some (.slice (some ⟨g,0,none⟩) bks.length kb)/\W'.cell? ⟨w.heap.size+1,3,none⟩=some (.int .i64 at_)/\W'.cell? ⟨g,i * 5+2,none⟩=some (.slice om xr.length cm)):=fun W' hb=>⟨za0 (kb0 hb kA) 2,za0 (kb0 hb kO) 3,(hb.cell (p:=⟨g,i * 5+2,none⟩) (zf8 pM)).trans pM⟩
  have B1 : Below W0.heap.size W0 W0.drew:=zar (Below.refl _ _);clear pA pO
  go_region_held3 (fun w'=>w'.cell? ⟨w.heap.size,2,none⟩=some (.slice (some ⟨g,0,none⟩) bks.length kb)/\w'.cell? ⟨w.heap.size+1,3,none⟩=some (.int .i64 at_)/\w'.cell? ⟨g,i * 5+2,none⟩=some (.slice om xr.length cm))
    ((refine HK0 _ ?_;repeat (first | exact Below.refl _ _ | exact B3 | refine zar ?_)))
    ((go_at_call 258;refine (hpo _ rm).mono ?_;rintro e w1 ⟨rfl,b1⟩;have B3 : Below W0.heap.size W0 w1:=za1 B1 b1;skip))
  all_goals
    replace kA:=kb0 b1 kA;replace kO:=kb0 b1 kO;replace kR:=kb0 b1 kR;have own0:=ownd.below b1;have hv0:=hvd.below b1;have d0:=za1 dd b1;have sz1 : W0.heap.size<=w1.heap.size:=b1.size;clear rm b1 ownd hvd dd pM hpo HK0 B1 B3;obtain ⟨S0,S1⟩:=cq2 kA
    go_wp2_with fail
    refine (zfe _ _ cs p _ own0.p.r1).mono ?_;rintro e w2 ⟨rfl,b2⟩;replace kA:=kb0 b2 kA;replace kO:=kb0 b2 kO;replace kR:=kb0 b2 kR;replace own0:=own0.below b2;replace hv0:=hv0.below b2;replace d0:=za1 d0 b2;replace sz1:=Nat.le_trans sz1 b2.size;clear b2 S0 S1
    obtain ⟨c,hcc⟩ : ∃ c,zas cs p=c:=⟨_,rfl⟩
    have HCC : Hid (zas cs p=c):=hcc;rw [hcc];clear hcc;by_cases h1 : c=1
    · subst h1
      obtain ⟨kk,hkk,hk⟩:=zq7 HCC.out;subst hkk;have hk2 : kk < ps.length:=HLEN.out ▸ hk
      obtain ⟨cs',hcs'⟩ : ∃ cs',cs.set kk 1=cs':=⟨_,rfl⟩
      obtain ⟨ps',hps'⟩ : ∃ ps',ps.set kk va=ps':=⟨_,rfl⟩
      have HCS : Hid (cs.set kk 1=cs'):=hcs';have HPS : Hid (ps.set kk va=ps'):=hps';have S0 : w2.drew.cell? ⟨w.heap.size,0,none⟩=some (.slice o1 cs.length k1):=za0 kA 0;have S1 : w2.drew.cell? ⟨w.heap.size,1,none⟩=some (.slice o2 ps.length k2):=za0 kA 1;have S2 : w2.drew.cell? ⟨w.heap.size,2,none⟩=some (.slice (some ⟨g,0,none⟩) bks.length kb):=za0 kA 2;have S4 : w2.drew.cell? ⟨w.heap.size+1,4,none⟩=some (.int .i64 va):=za0 kO 4;have ownd : OwnS base w2.drew _ _ _ cs ps bks:=own0.below ((Below.refl _ _).drew);clear hcs' hps'
      go_wp2_with fail
      have hp1 : ps.length<=1048576:=HLEN.out ▸ hc
      have HX : Hid (writtenS cs ps xr at_ va=some ((cs',ps'),xr)):=by
        show writtenS cs ps xr at_ va=some ((cs',ps'),xr)
        rw [writtenS,HPP.out,if_pos HCC.out,Int.toNat_natCast,HCS.out,HPS.out]
      have HKeep : ∀ W',Below w2.heap.size w2 W'->(W'.cell? ⟨w.heap.size,0,none⟩=some (.slice o1 cs.length k1)/\W'.cell? ⟨w.heap.size,1,none⟩=some (.slice o2 ps.length k2)/\W'.cell? ⟨w.heap.size,2,none⟩=some (.slice (some ⟨g,0,none⟩) bks.length kb)/\W'.cell? ⟨w.heap.size+1,4,none⟩=some (.int .i64 va)):=fun W' hb=>by
        have x1:=kb0 hb kA;have x2:=kb0 hb kO;exact ⟨za0 x1 0,za0 x1 1,za0 x1 2,za0 x2 4⟩
      have HKeep2 : ∀ (W' : World) (y0 y1 y2 : Value),Below w2.heap.size w2 W'->((((W'.setCell ⟨w.heap.size+1+1,0,none⟩ y0).setCell ⟨w.heap.size+1+1,1,none⟩ y1).setCell ⟨w.heap.size+1+1,2,none⟩ y2).cell? ⟨w.heap.size,0,none⟩=some (.slice o1 cs.length k1)/\(((W'.setCell ⟨w.heap.size+1+1,0,none⟩ y0).setCell ⟨w.heap.size+1+1,1,none⟩ y1).setCell ⟨w.heap.size+1+1,2,none⟩ y2).cell? ⟨w.heap.size,1,none⟩=some (.slice o2 ps.length k2)/\(((W'.setCell ⟨w.heap.size+1+1,0,none⟩ y0).setCell ⟨w.heap.size+1+1,1,none⟩ y1).setCell ⟨w.heap.size+1+1,2,none⟩ y2).cell? ⟨w.heap.size,2,none⟩=some (.slice (some ⟨g,0,none⟩) bks.length kb)/\(((W'.setCell ⟨w.heap.size+1+1,0,none⟩ y0).setCell ⟨w.heap.size+1+1,1,none⟩ y1).setCell ⟨w.heap.size+1+1,2,none⟩ y2).cell? ⟨w.heap.size+1,4,none⟩=some (.int .i64 va)):=fun W' y0 y1 y2 hb=>by
        have u : Upto (w.heap.size+1+1) W' (((W'.setCell ⟨w.heap.size+1+1,0,none⟩ y0).setCell ⟨w.heap.size+1+1,1,none⟩ y1).setCell ⟨w.heap.size+1+1,2,none⟩ y2):=(((Upto.refl _ _).setCell ⟨_,0,none⟩ (.inl rfl) _).setCell ⟨_,1,none⟩ (.inl rfl) _).setCell ⟨_,2,none⟩ (.inl rfl) _;have x1:=kb0 hb kA;have x2:=kb0 hb kO;have x1:=(u.block _ (za2 x1) (by omega)).trans x1;have x2:=(u.block _ (za2 x2) (by omega)).trans x2;exact ⟨za0 x1 0,za0 x1 1,za0 x1 2,za0 x2 4⟩
      have A1 : Below w2.heap.size w2 w2.drew:=zar (Below.refl _ _);clear S0 S1 S2 S4
      go_region_held3 (fun w'=>w'.cell? ⟨w.heap.size,0,none⟩=some (.slice o1 cs.length k1)/\w'.cell? ⟨w.heap.size,1,none⟩=some (.slice o2 ps.length k2)/\w'.cell? ⟨w.heap.size,2,none⟩=some (.slice (some ⟨g,0,none⟩) bks.length kb)/\w'.cell? ⟨w.heap.size+1,4,none⟩=some (.int .i64 va))
        ((first | (refine HKeep2 _ _ _ _ ?_;exact A3) | (refine HKeep _ ?_;repeat (first | exact Below.refl _ _ | exact A3 | refine zar ?_))))
        ((go_at_call 259;refine (ze1 _ _ cs ps kk 1 va _ cs' ps' HCS HPS hc hp1 hk hk2 ownd.p.r1 ownd.p.r2).mono ?_;rintro e w3 ⟨u1,u2,rfl,ow3,b3⟩;obtain ⟨y1,d1,y2,d2,e1,e2⟩:=ow3.forms;subst e1 e2;have A3 : Below w2.heap.size w2 w3:=za1 A1 b3;have kR3:=kb0 A3 kR;have r0:=za0 kR3 0;have r1:=za0 kR3 1;have r2:=za0 kR3 2;have e0:=za8 kR3 0;have e1:=za8 kR3 1;have e2:=za8 kR3 2;skip))
      all_goals
        have sz3:=b3.size;have szd : w2.drew.heap.size=w2.heap.size:=rfl
        have owA : OwnS base w3 (.slice y1 cs'.length d1) (.slice y2 ps'.length d2) (.slice (some ⟨g,0,none⟩) bks.length kb) cs' ps' bks:=⟨ow3.mono (by omega),(ownd.below b3).b,ownd.a⟩
        have HS : Hid _:=zaq (w:=w) kR3 (by omega) (za1 (zar d0) b3) (.slice y1 cs'.length d1) (.slice y2 ps'.length d2) (.slice (some ⟨g,0,none⟩) bks.length kb);have HF : Hid _:=OwnS.answer owA kR3 HS.out.2.1;clear owA ow3 b3 kR3 kA kO kR own0 ownd hv0 d0 HKeep HKeep2 A1 A3
        go_wp2_with fail
        exact bodyPost_ret (v:=.tuple #[.agg #[.slice y1 cs'.length d1,.slice y2 ps'.length d2,.slice (some ⟨g,0,none⟩) bks.length kb],.nilIface]) (by simp [results,Tryz.results235,go_sem,za0 HS.out.1]) rfl ⟨by rw [HX.out];exact ⟨_,_,_,.slice om xr.length cm,rfl,by rw [HSE.out _ rfl];exact ⟨HF.out.1,HF.out.2,HF.out.3⟩⟩,HS.out.2.2⟩
    · have hne : (c == 1)=false:=by rw [beq_eq_false_iff_ne];exact h1
      have htk : ∀ (v1 v2 : Value) (w : World) (h1 : Reads w.heap.size w v1 (cs.map (Value.int .i64))) (h2 : Reads w.heap.size w v2 (ps.map (Value.int .i64))),_:=fun v1 v2 w h1 h2=>zmq v1 v2 cs ps va w h1 h2
      obtain ⟨T,hT⟩ : ∃ T,takenPage cs ps va=T:=⟨_,rfl⟩
      simp only [hT] at htk;have HT : Hid (takenPage cs ps va=T):=hT;clear hT;obtain ⟨⟨T1,T2⟩,t⟩:=T;simp only at htk;obtain ⟨S0,S1⟩:=cq2 kA;have S4:=za0 kO 4;have HC1 : Hid (¬ zas cs p=1):=fun e=>h1 (HCC.out.symm.trans e)
      clear h1
      go_wp2_with fail
      refine (htk _ _ _ own0.p.r1 own0.p.r2).mono ?_;rintro e w3 ⟨u1,u2,rfl,ow3,b3⟩;obtain ⟨y1,d1,y2,d2,e1,e2⟩:=ow3.forms;subst e1 e2;obtain ⟨W4,hW4,kP,d4,z4⟩:=zb4 w3 #[.slice y1 T1.length d1,.slice y2 T2.length d2] 27;have HW4 : Hid (W4 = _):=hW4;have kA4:=(d4.block _ (za2 (kb0 b3 kA))).trans (kb0 b3 kA);have kO4:=(d4.block _ (za2 (kb0 b3 kO))).trans (kb0 b3 kO);have kR4:=(d4.block _ (za2 (kb0 b3 kR))).trans (kb0 b3 kR);have hv4:=(hv0.below b3).below d4;have sz3:=b3.size;have owB : OwnS base W4 (.slice y1 T1.length d1) (.slice y2 T2.length d2) (.slice (some ⟨g,0,none⟩) bks.length kb) T1 T2 bks:=OwnS.below ⟨ow3.mono (by omega),(own0.below b3).b,own0.a⟩ d4;have dd:=za1 (za1 d0 b3) d4;clear hW4 kA kO kR hv0 own0 ow3 b3 d4 S0 S1 S4 d0 htk;by_cases ht : t < 0
      · have HX : Hid (writtenS cs ps xr at_ va=none):=by
          show writtenS cs ps xr at_ va=none
          rw [writtenS,HPP.out,if_neg HC1.out,HT.out,if_pos ht]
        have HD : Hid (Below w.heap.size w W4):=dd;have HS : Hid _:=zaq (w:=w) (W:=W4.drew) kR4 (by omega) (zar dd) (.slice none 0 0) (.slice none 0 0) (.slice none 0 0);have G9 : W4.drew.cell? ⟨11,0,none⟩=some (.iface 334 (.pointer (some (ad 11)))):=hv4.cell 11 (by decide);have G8:=zf8 G9;have r0 : W4.drew.cell? ⟨w.heap.size+1+1,0,none⟩ = _:=za0 kR4 0;have r1 : W4.drew.cell? ⟨w.heap.size+1+1,1,none⟩ = _:=za0 kR4 1;have r2 : W4.drew.cell? ⟨w.heap.size+1+1,2,none⟩ = _:=za0 kR4 2;have e0 : W4.drew.frozen? ⟨w.heap.size+1+1,0,none⟩ = _:=za8 kR4 0;have e1 : W4.drew.frozen? ⟨w.heap.size+1+1,1,none⟩ = _:=za8 kR4 1;have e2 : W4.drew.frozen? ⟨w.heap.size+1+1,2,none⟩ = _:=za8 kR4 2;have r0':=za0 kR4 0;have r1':=za0 kR4 1;have r2':=za0 kR4 2;have e0':=za8 kR4 0;have e1':=za8 kR4 1;have e2':=za8 kR4 2;have G9' : W4.cell? ⟨11,0,none⟩=some (.iface 334 (.pointer (some (ad 11)))):=hv4.cell 11 (by decide);have gg:=HG.out;have g1 : ¬ (11 : Nat)=w.heap.size+1+1:=by omega
        have g2 : ¬ w.heap.size+1+1=(11 : Nat):=by omega
        clear kA4 kO4 owB dd hput
        go_wp2_with fail
        rw [<- HW4.out];clear HW4
        go_region_law (fail)
        all_goals
          have HT0 : Hid _:=zaq (w:=w) (W:=W4) kR4 (by omega) HD.out (.slice none 0 0) (.slice none 0 0) (.slice none 0 0);clear r0 r1 r2 e0 e1 e2 r0' r1' r2' e0' e1' e2' G9 G9' G8 kP kR4 hv4
          go_wp2_with fail
          exact bodyPost_ret (v:=.tuple #[.agg #[.slice none 0 0,.slice none 0 0,.slice none 0 0],refErr ad 9]) (by first | simp [results,Tryz.results235,go_sem,za0 HT0.out.1,refErr,zhk] | simp [results,Tryz.results235,go_sem,za0 HS.out.1,refErr,zhk]) rfl ⟨by rw [HX.out];exact rfl,by first | exact zar HT0.out.2.2 | exact HS.out.2.2⟩
      · have hpt : ∀ (v1 v2 vb : Value) (w : World) (hbase : base<=w.heap.size) (own : OwnS base w v1 v2 vb T1 T2 bks),_:=fun v1 v2 vb w hbase own=>hput t v1 v2 vb T1 T2 w hbase own
        obtain ⟨D,hD⟩ : ∃ D,dropped T1 T2 p=D:=⟨_,rfl⟩
        obtain ⟨M,hM⟩ : ∃ M,mapped xr at_ t=M:=⟨_,rfl⟩
        simp only [hD,hM] at hpt
        have HX : Hid (writtenS cs ps xr at_ va=some (D.1,M.1)):=by
          show writtenS cs ps xr at_ va=some (D.1,M.1)
          rw [writtenS,HPP.out,if_neg HC1.out,HT.out,if_neg ht,hD,hM]
        clear hD hM hput;obtain ⟨⟨D1,D2⟩,D3⟩:=D;obtain ⟨M1,M2⟩:=M;simp only at hpt;have hb4 : base<=W4.heap.size:=by omega
        obtain ⟨P0,P1⟩:=cq2 kP;have P2:=za0 kA4 2;have P3:=za0 kO4 3
        go_upto_region 7 with fail
        rw [<- HW4.out];clear HW4
        go_wp2_with fail
        refine (hpt _ _ _ _ hb4 owB).mono ?_;rintro e w5 ⟨u1,u2,ub,m,rfl,ow5,b5⟩;obtain ⟨f1,g1,f2,g2,f3,g3,e1,e2,e3⟩:=ow5.forms;rw [List.length_set] at e3;subst e1 e2 e3;have kR5:=kb0 b5 kR4;obtain ⟨r0,r1,r2⟩:=cq3 kR5;obtain ⟨e0,e1,e2⟩:=oq3 kR5;have HS : Hid _:=zaq (w:=w) kR5 (by omega) (za1 dd b5) (.slice f1 D1.length g1) (.slice f2 D2.length g2) (.slice f3 bks.length g3);have HF : Hid _:=OwnS.answer ow5 kR5 HS.out.2.1;clear kA4 kO4 kR4 kP hv4 owB dd kR5 ow5 b5 P0 P1 P2 P3
        go_wp2_with fail
        exact bodyPost_ret (v:=.tuple #[.agg #[.slice f1 D1.length g1,.slice f2 D2.length g2,.slice f3 bks.length g3],.nilIface]) (by simp [results,Tryz.results235,go_sem,za0 HS.out.1]) rfl ⟨by rw [HX.out];exact ⟨_,_,_,_,rfl,⟨HF.out.1,HF.out.2,HF.out.3⟩⟩,HS.out.2.2⟩
end Go.Proofs.YtfkkapdofjhgpaaGreatDoor
