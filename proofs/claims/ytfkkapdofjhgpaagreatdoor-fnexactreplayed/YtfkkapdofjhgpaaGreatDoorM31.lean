import Derived.Deep.RegionHeld3
import Derived.Test.YtfkkapdofjhgpaaGreatDoorM08
import Derived.Test.YtfkkapdofjhgpaaGreatDoorM09
import Derived.Test.YtfkkapdofjhgpaaGreatDoorM23
import Derived.Test.YtfkkapdofjhgpaaGreatDoorM25
import Derived.Test.YtfkkapdofjhgpaaGreatDoorM27
import Derived.Test.YtfkkapdofjhgpaaGreatDoorM30
set_option maxHeartbeats 12800000
namespace Go.Proofs.YtfkkapdofjhgpaaGreatDoor
open Go.RowKit
set_option linter.unusedVariables false
set_option maxRecDepth 100000
theorem zwe {bks : List Bk} {b x : Bk} (h : x ∈ zda bks b) : x ∈ bks\/x=b:=by
  simp only [zda,List.mem_append,List.mem_singleton] at h;rcases h with (h | h) | h
  · exact .inl (List.mem_of_mem_take h)
  · exact .inr h
  · exact .inl (List.mem_of_mem_drop h)
theorem zu6 {bks : List Bk} (h : ApartM bks) (b : Bk) (ha : ∀ x ∈ bks,∀ g,b.m.ownBlock=some g->x.m.ownBlock ≠ some g) : ApartM (zda bks b):=by
  have h0 : ApartM (bks.take (zbp (bks.map Bk.pb) b.nm) ++ bks.drop (zbp (bks.map Bk.pb) b.nm)):=by rw [List.take_append_drop];exact h
  obtain ⟨h1,h2,h3⟩:=List.pairwise_append.1 h0;unfold zda;refine List.pairwise_append.2 ⟨ApartM.snoc h1 b (fun x hx g hg hb=>ha x (List.mem_of_mem_take hx) g hb hg),h2,fun x hx y hy=>?_⟩;rcases List.mem_append.1 hx with q | q
  · exact h3 x q y hy
  · simp only [List.mem_singleton] at q
    subst q;exact fun g hg=>ha y (List.mem_of_mem_drop hy) g hg
theorem zu7 (w : World) (x0 x1 x2 x3 x4 : Value) (t : TypeId) : ∀ (j : Nat) (u : Value),[x0,x1,x2,x3,x4][j]? = some u->(w.alloc (.cells #[x0,x1,x2,x3,x4] t)).cell? ((⟨w.heap.size,0,none⟩ : Addr).add j)=some u:=fun j u hj=>by
  rw [zgj,za0 (heap_alloc_new w _)]
  simpa using hj
theorem zs2 (w : World) (x0 x1 x2 x3 x4 : Value) (t : TypeId) {w5 : World} (b : Below (w.alloc (.cells #[x0,x1,x2,x3,x4] t)).drew.heap.size (w.alloc (.cells #[x0,x1,x2,x3,x4] t)).drew w5) : ∀ (j : Nat) (u : Value),[x0,x1,x2,x3,x4][j]? = some u->w5.cell? ((⟨w.heap.size,0,none⟩ : Addr).add j)=some u:=fun j u hj=>by
  have h:=(b.block w.heap.size (by show w.heap.size < (w.alloc _).heap.size;simp)).trans (heap_alloc_new w _);rw [zgj,za0 h]
  simpa using hj
theorem ziq (base : Nat) (v1 v2 vb : Value) (cs ps : List Int) (bks : List Bk) (b : Bk) (w : World) (hbase : base<=w.heap.size) (hl : bks.length<=5) (hs : (bks.map Bk.nm).Pairwise (fun x y=>ltB x y=true)) (hnew : ∀ x ∈ bks,x.nm ≠ b.nm) (own : OwnS base w v1 v2 vb cs ps bks) (hy : w.ownsRow base 172 3 b.m b.rs.length (b.rs.flatMap zak)) (ha : ∀ x ∈ bks,∀ g,b.m.ownBlock=some g->x.m.ownBlock ≠ some g) :
    Calls Tryz.prog 257 #[.agg #[v1,v2,vb],.agg #[.string b.nm,.int .i64 b.sz,b.m,.bool b.fx,.int .i64 b.ep]] w fun e w'=>∃ ub : Value,e = .returned (.agg #[v1,v2,ub])/\OwnS base w' v1 v2 ub cs ps (zda bks b)/\Below w.heap.size w w':=by
  obtain ⟨i0,hi,hz0,hz1,hz2⟩:=info_parts Tryz.infoBook;obtain ⟨o1,k1,o2,k2,ob,kb,rfl,rfl,rfl⟩:=own.forms;have HA : Hid _:=zu6 own.a b ha;obtain ⟨om,cm,hym⟩:=za4 hy;obtain ⟨W0,hW0,kA,kY,kR,d0,z0⟩:=zg0 w #[.slice o1 cs.length k1,.slice o2 ps.length k2,.slice ob bks.length kb] #[.string b.nm,.int .i64 b.sz,.slice om b.rs.length cm,.bool b.fx,.int .i64 b.ep] #[.slice none 0 0,.slice none 0 0,.slice none 0 0] 30 117 30;have HW0 : Hid (W0 = _):=hW0;have own0:=own.below d0;have hy0:=za9 hy d0;have z0a : w.heap.size+1+1 < W0.heap.size:=by omega
  have HMS : Hid (∀ x ∈ bks,∃ o k cap,x.m = .slice o k cap):=fun x hx=>by obtain ⟨o,c,h⟩:=za4 (own.b.maps x hx);exact ⟨o,_,c,h⟩
  have HSR : Hid _:=hs;have HNW : Hid _:=hnew;have HRD : Hid (ReadsR 5 bookC W0.heap.size W0 (.slice ob bks.length kb) bks):=own0.b.reads.row;rw [hym];clear hW0 z0 own hy ha hs hnew
  go_enter Tryz.func257,Tryz.ntmps257
  go_wp2_with fail
  rw [<- HW0.out];clear HW0
  go_cut [5] (fun v wx=>∃ g cp : Nat,v = .slice (some ⟨g,0,none⟩) (bks.length+1) cp/\wx.ownsRow W0.heap.size 117 5 (.slice (some ⟨g,0,none⟩) (bks.length+1) cp) (stepB bks b bks.length).length ((stepB bks b bks.length).flatMap bookC)/\Below W0.heap.size W0 wx)
  case first =>
    have S2 : W0.drew.cell? ⟨w.heap.size,2,none⟩=some (.slice ob bks.length kb):=za0 kA 2;have Y0 : W0.drew.cell? ⟨w.heap.size+1,0,none⟩=some (.string b.nm):=za0 kY 0;have Y1 : W0.drew.cell? ⟨w.heap.size+1,1,none⟩=some (.int .i64 b.sz):=za0 kY 1;have Y2 : W0.drew.cell? ⟨w.heap.size+1,2,none⟩=some (.slice om b.rs.length cm):=za0 kY 2;have Y3 : W0.drew.cell? ⟨w.heap.size+1,3,none⟩=some (.bool b.fx):=za0 kY 3;have Y4 : W0.drew.cell? ⟨w.heap.size+1,4,none⟩=some (.int .i64 b.ep):=za0 kY 4;have hBC : bookC b = [.string b.nm,.int .i64 b.sz,.slice om b.rs.length cm,.bool b.fx,.int .i64 b.ep]:=by rw [bookC,hym]
    have HST : Hid ((stepB bks b bks.length).length=bks.length+1/\(stepB bks b bks.length).flatMap bookC=bks.flatMap bookC ++ bookC b):=by
      refine ⟨zhh _ _ _ (Nat.le_refl _),?_⟩;rw [stepB,List.take_length,List.drop_length,List.append_nil,List.flatMap_append];simp
    have HONE : Hid (∀ u ∈ bookC b,u.oneCell'=true):=zgs b ⟨_,_,_,hym⟩
    have HKeep : ∀ W',Below W0.heap.size W0 W'->(Below W0.heap.size W0 W'/\W'.cell? ⟨w.heap.size,2,none⟩=some (.slice ob bks.length kb)/\W'.cell? ⟨w.heap.size+1,0,none⟩=some (.string b.nm)/\W'.cell? ⟨w.heap.size+1,1,none⟩=some (.int .i64 b.sz)/\W'.cell? ⟨w.heap.size+1,2,none⟩=some (.slice om b.rs.length cm)/\W'.cell? ⟨w.heap.size+1,3,none⟩=some (.bool b.fx)/\W'.cell? ⟨w.heap.size+1,4,none⟩=some (.int .i64 b.ep)):=fun W' hb=>by
      have x1:=kb0 hb kA;have x2:=kb0 hb kY;exact ⟨hb,za0 x1 2,za0 x2 0,za0 x2 1,za0 x2 2,za0 x2 3,za0 x2 4⟩
    have RX : ∀ X : World,Below W0.heap.size W0 X->ReadsR 5 bookC X.heap.size X (.slice ob bks.length kb) bks:=fun X bX=>(HRD.out.below bX).mono bX.size
    have A1 : Below W0.heap.size W0 W0.drew:=zar (Below.refl _ _);have A2 : Below W0.heap.size W0 (W0.alloc (.cells #[.string b.nm,.int .i64 b.sz,.slice om b.rs.length cm,.bool b.fx,.int .i64 b.ep] 117)).drew:=zar (za3 (Below.refl _ _));clear S2 Y0 Y1 Y2 Y3 Y4
    go_region_held3 (fun w'=>Below W0.heap.size W0 w'/\w'.cell? ⟨w.heap.size,2,none⟩=some (.slice ob bks.length kb)/\w'.cell? ⟨w.heap.size+1,0,none⟩=some (.string b.nm)/\w'.cell? ⟨w.heap.size+1,1,none⟩=some (.int .i64 b.sz)/\w'.cell? ⟨w.heap.size+1,2,none⟩=some (.slice om b.rs.length cm)/\w'.cell? ⟨w.heap.size+1,3,none⟩=some (.bool b.fx)/\w'.cell? ⟨w.heap.size+1,4,none⟩=some (.int .i64 b.ep))
      ((refine HKeep _ ?_;repeat (first | exact Below.refl _ _ | exact A3 | exact A4 | refine zar ?_ | refine za3 ?_)))
      ((first
        | (go_at_call 273;first
            | (refine (zi5 _ bks _ (by omega) HMS.out (RX _ A1)).mono ?_;rintro e w5 ⟨u5,rfl,og,b5⟩;have A3 : Below W0.heap.size W0 w5:=za1 A1 b5;have og5:=zah (base':=W0.heap.size) og A1.size;obtain ⟨o5,c5,hu5⟩:=za4 og;subst hu5;clear og;skip)
            | (refine (zi5 _ bks _ (by omega) HMS.out (RX _ A2)).mono ?_;rintro e w5 ⟨u5,rfl,og,b5⟩;have A3 : Below W0.heap.size W0 w5:=za1 A2 b5;have og5:=zah (base':=W0.heap.size) og A2.size;obtain ⟨o5,c5,hu5⟩:=za4 og;subst hu5;clear og;skip))
        | (refine zgr rfl (.tmp 8) (.tmp 10) 28 rfl W0.heap.size 117 i0 (.agg #[.string ByteArray.empty,.int .i64 0,.slice none 0 0,.bool false,.int .i64 0]) 5 64 Tryz.underlying28 hi hz0 hz1 hz2 rfl (by decide) (.slice o5 bks.length c5) bks.length (bks.flatMap bookC) ?e1 ?own ⟨w5.heap.size,0,none⟩ 1 1 (bookC b) ?e2 rfl ?hn HONE.out (by unfold maxLen;omega) (by omega) ?hbase ?_
           case e1=>first | rfl | simp [Act.eval]
           case e2=>first | rfl | simp [Act.eval]
           case own=>exact og5.alloc _
           case hn=>rw [hBC];exact zu7 w5 _ _ _ _ _ 117
           case hbase=>(have:=A3.size;simp at this ⊢;omega)
           intro v7 w7 own7 grow7 nil7;have A4 : Below W0.heap.size W0 w7:=(za3 A3).grown grow7 (by have:=A3.size;simp at this ⊢;omega) (fun q hq=>(og5.lt q hq).1)
           skip)
        | (refine zgr rfl (.tmp 8) (.tmp 10) 28 rfl W0.heap.size 117 i0 (.agg #[.string ByteArray.empty,.int .i64 0,.slice none 0 0,.bool false,.int .i64 0]) 5 64 Tryz.underlying28 hi hz0 hz1 hz2 rfl (by decide) (.slice o5 bks.length c5) bks.length (bks.flatMap bookC) ?e1 ?own ⟨W0.heap.size,0,none⟩ 1 1 (bookC b) ?e2 rfl ?hn HONE.out (by unfold maxLen;omega) (by omega) ?hbase ?_
           case e1=>first | rfl | simp [Act.eval]
           case e2=>first | rfl | simp [Act.eval]
           case own=>exact og5
           case hn=>rw [hBC];exact zs2 W0 _ _ _ _ _ 117 b5
           case hbase=>exact A3.size
           intro v7 w7 own7 grow7 nil7;have A4 : Below W0.heap.size W0 w7:=A3.grown grow7 A3.size (fun q hq=>(og5.lt q hq).1)
           skip)))
    all_goals
      have own8 : w7.ownsRow W0.heap.size 117 5 v7 (stepB bks b bks.length).length ((stepB bks b bks.length).flatMap bookC):=by rw [HST.out.1,HST.out.2];exact own7
      obtain ⟨g,cp,hv⟩ : ∃ g cp,v7 = .slice (some ⟨g,0,none⟩) (bks.length+1) cp:=zfn (by rw [HST.out.1] at own8;exact own8);subst hv;clear own7 grow7 nil7 og5
      go_wp2_with fail
      go_meet
      exact ⟨g,cp,rfl,own8,A4⟩
  case rest =>
    obtain ⟨g,cp,rfl,ow,bw⟩:=hcut;have kA1:=kb0 bw kA;have kR1:=kb0 bw kR;have own1:=own0.below bw;have hy1:=za9 hy0 bw;have d1:=za1 d0 bw;have hgl:=ow.lt g rfl
    obtain ⟨N,hN⟩ : ∃ N,bks.length+1=N:=⟨_,rfl⟩
    have hN1 : bks.length+1<=N:=by omega
    have hN2 : N<=bks.length+1:=by omega
    have HNN : Hid (bks.length+1=N):=hN;rw [hN] at ow ⊢;clear hN;have sz0:=bw.size
    have HMB : Hid (∃ o k c,b.m = .slice o k c):=⟨_,_,_,hym⟩
    clear bw kA kR own0 hy0 kY
    go_wp2_with fail
    refine (zmu W0.heap.size g cp N bks b _ hN1 hN2 (by omega) HMS.out HMB.out HSR.out HNW.out ow).mono ?_;rintro e w2 ⟨rfl,ow2,u2⟩;have lA:=za2 kA1;have lR:=za2 kR1;have kA2:=(u2.block _ lA (by omega)).trans kA1;have kR2:=(u2.block _ lR (by omega)).trans kR1;have d2:=d1.trans (u2.toBelow d1.size (by have:=d0.size;omega));have st : ∀ (e : TypeId) (kk n : Nat) (v : Value) (xs : List Value),117 ≠ e->World.ownsRow _ base e kk v n xs->w2.ownsRow base e kk v n xs:=fun e kk n v xs he hr=>zai hr (fun q hq hqv=>u2.block q hq (fun hx=>zdp hr ow he g rfl (by rw [<- hx];exact hqv)))
    have sh : OwnS base w2 (.slice o1 cs.length k1) (.slice o2 ps.length k2) (.slice (some ⟨g,0,none⟩) N cp) cs ps (zda bks b):=⟨⟨st _ _ _ _ _ (by decide) own1.p.c,st _ _ _ _ _ (by decide) own1.p.p,own1.p.apart⟩,⟨zah ow2 (by have:=d0.size;omega),fun x hx=>by
      rcases zwe hx with q | rfl
      · exact st _ _ _ _ _ (by decide) (own1.b.maps x q)
      · exact st _ _ _ _ _ (by decide) hy1⟩,HA.out⟩
    have HS : Hid _:=zaq (w:=w) kR2 (by omega) d2 (.slice o1 cs.length k1) (.slice o2 ps.length k2) (.slice (some ⟨g,0,none⟩) N cp);have HF : Hid _:=OwnS.answer sh kR2 HS.out.2.1;obtain ⟨a0,a1⟩:=cq2 kA2;obtain ⟨r0,r1,r2⟩:=cq3 kR2;obtain ⟨e0,e1,e2⟩:=oq3 kR2;clear sh st ow ow2 u2 kA1 kR1 kA2 kR2 own1 hy1 d1 d2 HA hym
    go_wp2_with fail
    exact bodyPost_ret (v:=.agg #[.slice o1 cs.length k1,.slice o2 ps.length k2,.slice (some ⟨g,0,none⟩) N cp]) (by simp [results,Tryz.results257,go_sem,za0 HS.out.1]) rfl ⟨_,rfl,⟨HF.out.1,HF.out.2,HF.out.3⟩,HS.out.2.2⟩
theorem OwnS.apart_new {base : Nat} {w w' : World} {v1 v2 vb m : Value} {cs ps : List Int} {bks : List Bk} {n : Nat} {ys : List Value} (own : OwnS base w v1 v2 vb cs ps bks) (om : w'.ownsRow w.heap.size 172 3 m n ys) :
    ∀ x ∈ bks,∀ g,m.ownBlock=some g->x.m.ownBlock ≠ some g:=fun x hx g hg hxg=>by
  have h1:=(om.lt g hg).1;have h2:=((own.b.maps x hx).lt g hxg).2
  omega
theorem zwf (base : Nat) (v1 v2 vb : Value) (cs ps : List Int) (bks : List Bk) (k : Int) (nm ot : ByteArray) (at_ va ep : Int) (w : World) (hbase : base<=w.heap.size) (hl : bks.length<=5) (hs : (bks.map Bk.nm).Pairwise (fun x y=>ltB x y=true)) (hnew : ∀ x ∈ bks,x.nm ≠ nm) (hn : nm.size<=1099511627776) (hok : newOk nm va=true) (own : OwnS base w v1 v2 vb cs ps bks) :
    Calls Tryz.prog 234 #[.agg #[v1,v2,vb],.agg #[.int .i64 k,.string nm,.string ot,.int .i64 at_,.int .i64 va,.int .i64 ep]] w fun e w'=>∃ m ub : Value,e = .returned (.agg #[v1,v2,ub])/\OwnS base w' v1 v2 ub cs ps (zda bks ⟨nm,va,m,[],false,0⟩)/\Below w.heap.size w w':=by
  obtain ⟨o1,k1,o2,k2,ob,kb,rfl,rfl,rfl⟩:=own.forms;obtain ⟨W0,hW0,kA,kO,kR,d0,z0⟩:=zg0 w #[.slice o1 cs.length k1,.slice o2 ps.length k2,.slice ob bks.length kb] #[.int .i64 k,.string nm,.string ot,.int .i64 at_,.int .i64 va,.int .i64 ep] #[.slice none 0 0,.slice none 0 0,.slice none 0 0] 30 37 30;have HW0 : Hid (W0 = _):=hW0;have own0:=own.below d0;have z0a : w.heap.size+1+1 < W0.heap.size:=by omega
  have hb0 : base<=W0.heap.size:=by omega
  clear hW0 z0 own
  go_enter Tryz.func234,Tryz.ntmps234
  go_wp2_with fail
  rw [<- HW0.out];clear HW0;refine (zke nm va _ (by unfold maxLen;omega) hn).mono ?_;rw [show newName nm va=nm by rw [newName,if_pos hok],show newSize nm va=va by rw [newSize,if_pos hok],hok];rintro e w1 ⟨m,rfl,om,b1⟩;have hap:=own0.apart_new om;obtain ⟨om',cm,hm⟩:=za4 om;subst hm;obtain ⟨W1,hW1,kB,d1,z1⟩:=zb4 w1 #[.string nm,.int .i64 va,.slice om' 0 cm,.bool false,.int .i64 0] 117;have HW1 : Hid (W1 = _):=hW1;have kA1:=(d1.block _ (za2 (kb0 b1 kA))).trans (kb0 b1 kA);have kR1:=(d1.block _ (za2 (kb0 b1 kR))).trans (kb0 b1 kR);have own1:=(own0.below b1).below d1;have hm1:=zah (za9 om d1) hb0;have dW:=za1 (za1 d0 b1) d1;have hb1 : base<=W1.heap.size:=by have:=b1.size;have:=d1.size;omega
  clear hW1 z1 own0 om b1 d1 kA kO kR;obtain ⟨a0,a1,a2⟩:=cq3 kA1;obtain ⟨c0,c1,c2,c3,c4⟩:=cq5 kB
  go_upto_region 2 with fail
  rw [<- HW1.out];clear HW1
  go_wp2_with fail
  refine (ziq base _ _ _ cs ps bks ⟨nm,va,.slice om' 0 cm,[],false,0⟩ _ hb1 hl hs hnew own1 hm1 hap).mono ?_;rintro e w2 ⟨ub,rfl,ow,b2⟩;obtain ⟨_,_,_,_,o6,c6,-,-,hub⟩:=ow.forms
  obtain ⟨N,hN⟩ : ∃ N,(zda bks ⟨nm,va,.slice om' 0 cm,[],false,0⟩).length=N:=⟨_,rfl⟩
  rw [hN] at hub;clear hN;subst hub;have kR2:=kb0 b2 kR1;have HS : Hid _:=zaq (w:=w) kR2 (by omega) (za1 dW b2) (.slice o1 cs.length k1) (.slice o2 ps.length k2) (.slice o6 N c6);have HF : Hid _:=OwnS.answer ow kR2 HS.out.2.1;obtain ⟨r0,r1,r2⟩:=cq3 kR2;obtain ⟨e0,e1,e2⟩:=oq3 kR2;clear ow b2 kR2 kA1 kB kR1 own1 hm1 a0 a1 a2 c0 c1 c2 c3 c4 dW
  go_wp2_with fail
  exact bodyPost_ret (v:=.agg #[.slice o1 cs.length k1,.slice o2 ps.length k2,.slice o6 N c6]) (by simp [results,Tryz.results234,go_sem,za0 HS.out.1]) rfl ⟨_,_,rfl,⟨HF.out.1,HF.out.2,HF.out.3⟩,HS.out.2.2⟩
theorem zu8 (base : Nat) (v1 v2 vb : Value) (cs ps : List Int) (bks : List Bk) (nm ot : ByteArray) (at_ va ep : Int) (w : World) (ad : Nat->Addr) (hv : Vars w ad) (hbase : base<=w.heap.size) (inv : ShInv ⟨cs,ps,bks.map Bk.pb⟩) (ho : opOk ⟨1,nm,ot,at_,va,ep⟩=true) (hr : za5 (bks.map Bk.pb) ⟨1,nm,ot,at_,va,ep⟩=0) (own : OwnS base w v1 v2 vb cs ps bks) :
    Calls Tryz.prog 208 #[.agg #[v1,v2,vb],.agg #[.int .i64 1,.string nm,.string ot,.int .i64 at_,.int .i64 va,.int .i64 ep]] w fun e w'=>ChPost ad base (doOp ⟨cs,ps,bks.map Bk.pb⟩ ⟨1,nm,ot,at_,va,ep⟩) e w'/\Below w.heap.size w w':=by
  have F:=zcm inv;have hpt:=zbk hr;have hnew:=zjg (hpt.2.1 rfl).1;have hl5 : bks.length<=5:=by have h1:=(hpt.2.1 rfl).2;have h2:=F.few;rw [List.length_map] at h1;omega
  have hno : Nums.nameB nm.data.toList=true:=(zc9 ho).1;have hvo : 1<=va/\va<=16:=(zc9 ho).2.2.2.2.1 rfl;have hok : newOk nm va=true:=by simp [newOk,hno,hvo]
  have hn4 : nm.size<=1099511627776:=by have:=(zd1 _ hno).2;omega
  have HC : Hid _:=fun m=>zy3 (cs:=cs) (ps:=ps) ho hr m
  have HSR : Hid _:=F.srt;have HNW : Hid _:=hnew;clear hpt hnew hno hvo;have hms : ∀ b ∈ bks,∃ o k cap,b.m = .slice o k cap:=fun b hb=>by obtain ⟨o,c,h⟩:=za4 (own.b.maps b hb);exact ⟨o,_,c,h⟩
  have HMS : Hid _:=hms;obtain ⟨o1,k1,o2,k2,ob,kb,rfl,rfl,rfl⟩:=own.forms;obtain ⟨W0,hW0,kA,kO,kR,d0,z0⟩:=zg0 w #[.slice o1 cs.length k1,.slice o2 ps.length k2,.slice ob bks.length kb] #[.int .i64 1,.string nm,.string ot,.int .i64 at_,.int .i64 va,.int .i64 ep] #[.slice none 0 0,.slice none 0 0,.slice none 0 0] 30 37 30;have HW0 : Hid (W0 = _):=hW0;have own0:=own.below d0;have hv0:=hv.below d0;have zr : w.heap.size+1+1 < W0.heap.size:=by omega
  have hb0 : base<=W0.heap.size:=by omega
  have HF : Hid _:=F;have HINV : Hid _:=inv;clear hW0 z0 own hv hms F inv ho hr hbase
  go_enter Tryz.func208,Tryz.ntmps208
  go_wp2_with fail
  rw [<- HW0.out];clear HW0;have hfb : ∀ (v : Value) (w : World) (r : ReadsR 5 bookC w.heap.size w v bks),_:=fun v w r=>zal v bks nm w HMS.out r
  obtain ⟨fi,hfi⟩ : ∃ fi,zag bks nm=fi:=⟨_,rfl⟩
  simp only [hfi] at hfb;have HFI : Hid (zag bks nm=fi):=hfi;clear hfi;refine (hfb _ _ own0.b.reads.row).mono ?_;rintro e w1 ⟨rfl,b1⟩;have kA1:=kb0 b1 kA;have kO1:=kb0 b1 kO;have kR1:=kb0 b1 kR;have own1:=own0.below b1;have hv1:=hv0.below b1;have d1:=za1 d0 b1;have hb1 : base<=w1.heap.size:=Nat.le_trans hb0 b1.size;have hlt1 : w.heap.size+1+1 < w1.heap.size:=Nat.lt_of_lt_of_le zr b1.size;clear b1 kA kO kR own0 hv0 d0 hb0 zr hfb;obtain ⟨p0,p1,p2⟩:=cq3 kA1;obtain ⟨q0,q1,q2,q3,q4,q5⟩:=cq6 kO1
  go_wp2_with fail
  clear p0 p1 p2 q0 q1 q2 q3 q4 q5;refine (zwf base _ _ _ cs ps bks 1 nm ot at_ va ep _ hb1 hl5 HSR.out HNW.out hn4 hok own1).mono ?_;rintro e w2 ⟨m,ub,rfl,ow2,b2⟩
  obtain ⟨N,hN⟩ : ∃ N,zda bks ⟨nm,va,m,[],false,0⟩=N:=⟨_,rfl⟩
  have HN : Hid (zda bks ⟨nm,va,m,[],false,0⟩=N):=hN;rw [hN] at ow2;clear hN;obtain ⟨_,_,_,_,o6,c6,-,-,hub⟩:=ow2.forms;subst hub;have kR2:=kb0 b2 kR1;have d2:=za1 d1 b2;have hs:=zaq (w:=w) kR2 (by omega) d2 (.slice o1 cs.length k1) (.slice o2 ps.length k2) (.slice o6 N.length c6);have ow3:=OwnS.answer ow2 kR2 hs.2.1;obtain ⟨r0,r1,r2⟩:=cq3 kR2;obtain ⟨e0,e1,e2⟩:=oq3 kR2
  obtain ⟨W3,hW3⟩ : ∃ W3 : World,W3=((w2.setCell ⟨w.heap.size+1+1,0,none⟩ (.slice o1 cs.length k1)).setCell ⟨w.heap.size+1+1,1,none⟩ (.slice o2 ps.length k2)).setCell ⟨w.heap.size+1+1,2,none⟩ (.slice o6 N.length c6):=⟨_,rfl⟩
  rw [<- hW3] at hs ow3;have HW3 : Hid (W3 = _):=hW3;clear hW3 ow2 b2 kA1 kO1 own1 hv1 d1 kR1
  go_upto_region 20 with fail
  rw [<- HW3.out];clear HW3 r0 r1 r2 e0 e1 e2 kR2;have HS : Hid _:=zaq (w:=w) hs.1 (by omega) hs.2.2 (.slice o1 cs.length k1) (.slice o2 ps.length k2) (.slice o6 N.length c6);have HG : Hid _:=OwnS.answer ow3 hs.1 HS.out.2.1;obtain ⟨r0,r1,r2⟩:=cq3 hs.1;obtain ⟨e0,e1,e2⟩:=oq3 hs.1;clear hs ow3 d2
  go_wp2_with fail
  exact bodyPost_ret (v:=.tuple #[.agg #[.slice o1 cs.length k1,.slice o2 ps.length k2,.slice o6 N.length c6],.int .i64 0,.nilIface]) (by simp [results,Tryz.results208,go_sem,za0 HS.out.1]) rfl ⟨by
    rw [HC.out m,HN.out]
    exact .inl ⟨rfl,_,_,_,_,rfl,⟨HG.out.1,HG.out.2,HG.out.3⟩,rfl⟩,HS.out.2.2⟩
theorem OwnB.at {base : Nat} {w : World} {vb : Value} {bks : List Bk} (h : OwnB base w vb bks) (i : Nat) (hi : i < bks.length) : ∃ g cap,vb = .slice (some ⟨g,0,none⟩) bks.length cap:=by
  obtain ⟨n,hn1⟩ : ∃ n,bks.length=n+1:=⟨bks.length - 1,by omega⟩
  have hr:=h.row;rw [hn1] at hr ⊢;exact zfn hr
theorem zs3 {bks : List Bk} (h : ApartM bks) (i : Nat) (hi : i < bks.length) : ∀ j (hj : j < bks.length),j ≠ i->∀ g,bks[i].m.ownBlock=some g->bks[j].m.ownBlock ≠ some g:=fun j hj hne g hg=>zpy h i j hi hj (fun e=>hne e.symm) g hg
theorem apart_new {base : Nat} {w : World} {vb : Value} {bks : List Bk} (h : OwnB base w vb bks) {m : Value} {B : Nat} (hB : w.heap.size<=B) (hm : ∀ g,m.ownBlock=some g->B<=g) (i : Nat) : ∀ j (hj : j < bks.length),j ≠ i->∀ g,m.ownBlock=some g->bks[j].m.ownBlock ≠ some g:=fun j hj _ g hg hx=>by
  have h1:=((h.maps _ (List.getElem_mem hj)).lt g hx).2;have h2:=hm g hg
  omega
theorem zoi (base i : Nat) (v1 v2 vb : Value) (cs ps : List Int) (bks : List Bk) (w : World) (hbase : base<=w.heap.size) (hi : i < bks.length) (hl : bks.length<=6) (hep : 0<=bks[i].ep/\bks[i].ep<=1000) (own : OwnS base w v1 v2 vb cs ps bks) :
    Calls Tryz.prog 240 #[.agg #[v1,v2,vb],.int .i64 i] w fun e w'=>∃ ub : Value,e = .returned (.tuple #[.agg #[v1,v2,ub],.int .i64 (bks[i].ep+1)])/\OwnS base w' v1 v2 ub cs ps (bks.set i ⟨bks[i].nm,bks[i].sz,bks[i].m,bks[i].rs,bks[i].fx,bks[i].ep+1⟩)/\Below w.heap.size w w':=by
  obtain ⟨o1,k1,o2,k2,ob,kb,rfl,rfl,rfl⟩:=own.forms;obtain ⟨g,cap,hvb⟩:=own.b.at i hi;cases hvb;obtain ⟨W0,hW0,kA,kR,d0,z0⟩:=zc7 w #[.slice o1 cs.length k1,.slice o2 ps.length k2,.slice (some ⟨g,0,none⟩) bks.length kb] #[.slice none 0 0,.slice none 0 0,.slice none 0 0] 30 30;have own0:=own.below d0;have hmi:=own0.b.maps _ (List.getElem_mem hi);have hap:=zs3 own0.a i hi;obtain ⟨⟨a0,a1,a2,a3,a4⟩,-⟩:=zaz own0.b.row i hi
  obtain ⟨x,hx⟩ : ∃ x,bks[i]=x:=⟨_,rfl⟩
  rw [hx] at hep hmi hap a0 a1 a2 a3 a4 ⊢;clear hx;obtain ⟨xn,xs,xm,xr,xf,xe⟩:=x;simp only at hep hmi hap a0 a1 a2 a3 a4 ⊢;obtain ⟨om,cm,hxm⟩:=za4 hmi;subst hxm;obtain ⟨W1,hW1,kB,d1,z1⟩:=zb4 W0 #[.string xn,.int .i64 xs,.slice om xr.length cm,.bool xf,.int .i64 (xe+1)] 117;have hW1b:=hW1;rw [hW0] at hW1b;have HW1 : Hid (W1 = _):=hW1b;have pA:=za0 kA 2;have own1 : OwnS base W1.drew _ _ _ cs ps bks:=(own0.below d1).below ((Below.refl _ _).drew);have hm1 : W1.drew.ownsRow base 172 3 (.slice om xr.length cm) xr.length (xr.flatMap zak):=za9 (za9 hmi d1) ((Below.refl _ _).drew);have kA1:=kb0 d1 kA;have kR1:=kb0 d1 kR;have S0 : W1.drew.cell? ⟨w.heap.size,0,none⟩=some (.slice o1 cs.length k1):=za0 kA1 0;have S1 : W1.drew.cell? ⟨w.heap.size,1,none⟩=some (.slice o2 ps.length k2):=za0 kA1 1;have S2 : W1.drew.cell? ⟨w.heap.size,2,none⟩=some (.slice (some ⟨g,0,none⟩) bks.length kb):=za0 kA1 2;rw [z0] at kB;have T0 : W1.drew.cell? ⟨w.heap.size+1+1,0,none⟩=some (.string xn):=za0 kB 0;have T1 : W1.drew.cell? ⟨w.heap.size+1+1,1,none⟩=some (.int .i64 xs):=za0 kB 1;have T2 : W1.drew.cell? ⟨w.heap.size+1+1,2,none⟩=some (.slice om xr.length cm):=za0 kB 2;have T3 : W1.drew.cell? ⟨w.heap.size+1+1,3,none⟩=some (.bool xf):=za0 kB 3;have T4 : W1.drew.cell? ⟨w.heap.size+1+1,4,none⟩=some (.int .i64 (xe+1)):=za0 kB 4;have dW:=za1 d0 d1;have zz : w.heap.size+1+1 < W1.heap.size:=by omega
  have zd : W1.drew.heap.size=W1.heap.size:=rfl;have hb1 : base<=W1.drew.heap.size:=by have:=d0.size;have:=d1.size;omega
  have i0 : (0 : Int)<=(i : Int):=by omega
  have i1 : (i : Int) < (bks.length : Int):=by omega
  have we : IntKind.i64.wrap (xe+1)=xe+1:=by rw [IntKind.wrap_i64];omega
  have HAP : Hid _:=hap;rw [hW0] at pA a0 a1 a2 a3 a4;clear hW1 hW1b z1 own own0 hmi d1 kA kR hap hW0 z0
  go_enter Tryz.func240,Tryz.ntmps240
  go_upto_region 3 with fail
  rw [<- HW1.out];clear HW1 pA a0 a1 a2 a3 a4
  go_region_law (go_simp;go_at_call 263;refine (zh3 base i _ _ _ cs ps bks ⟨xn,xs,.slice om xr.length cm,xr,xf,xe+1⟩ _ hb1 hi hl own1 hm1 HAP.out).mono ?_;rintro e w6 ⟨ub,rfl,ow,b6⟩;obtain ⟨_,_,_,_,o6,c6,-,-,hub⟩:=ow.forms;have kB6:=(b6.block _ (show w.heap.size+1+1 < W1.heap.size by omega)).trans kB;have U4:=za0 kB6 4;have kR6:=kb0 b6 kR1;have q0:=za0 kR6 0;have q1:=za0 kR6 1;have q2:=za0 kR6 2;have f0:=za8 kR6 0;have f1:=za8 kR6 1;have f2:=za8 kR6 2;dsimp only)
  all_goals
    rw [List.length_set] at hub;subst hub;have HS : Hid _:=zaq (w:=w) kR6 (by omega) (za1 (zar dW) b6) (.slice o1 cs.length k1) (.slice o2 ps.length k2) (.slice o6 bks.length c6);have HF : Hid _:=OwnS.answer ow kR6 HS.out.2.1;clear ow b6 kB6 kR6 U4 own1 hm1 kA1 kR1 S0 S1 S2 T0 T1 T2 T3 T4 kB dW
    go_wp2_with fail
    exact bodyPost_ret (v:=.tuple #[.agg #[.slice o1 cs.length k1,.slice o2 ps.length k2,.slice o6 bks.length c6],.int .i64 (xe+1)]) (by simp [results,Tryz.results240,go_sem,za0 HS.out.1]) rfl ⟨_,rfl,⟨HF.out.1,HF.out.2,HF.out.3⟩,HS.out.2.2⟩
theorem zq6 (base i : Nat) (place : Int) (v1 v2 vb : Value) (cs ps : List Int) (bks : List Bk) (w : World) (hi : i < bks.length) (hfit : zb9 bks[i].rs) (hpg : pageOf bks[i].rs place < (ps.length : Int)) (hpm : -1<=pageOf bks[i].rs place) (own : OwnS base w v1 v2 vb cs ps bks) :
    Calls Tryz.prog 241 #[.agg #[v1,v2,vb],.int .i64 i,.int .i64 place] w fun e w'=>e = .returned (.int .i64 (if pageOf bks[i].rs place < 0 then 0 else ps.getD (pageOf bks[i].rs place).toNat 0))/\Below w.heap.size w w':=by
  obtain ⟨o1,k1,o2,k2,ob,kb,rfl,rfl,rfl⟩:=own.forms;obtain ⟨g,cap,hvb⟩:=own.b.at i hi;cases hvb;obtain ⟨W0,hW0,kA,d0,z0⟩:=zb4 w #[.slice o1 cs.length k1,.slice o2 ps.length k2,.slice (some ⟨g,0,none⟩) bks.length kb] 30;have HW0 : Hid (W0 = _):=hW0;have own0:=own.below d0;have hmi:=own0.b.maps _ (List.getElem_mem hi);obtain ⟨⟨a0,a1,a2,a3,a4⟩,-⟩:=zaz own0.b.row i hi;have rp:=own0.p.reads.p
  obtain ⟨x,hx⟩ : ∃ x,bks[i]=x:=⟨_,rfl⟩
  rw [hx] at hfit hpg hpm hmi a2 ⊢;clear hx a0 a1 a3 a4;obtain ⟨xn,xs,xm,xr,xf,xe⟩:=x;simp only at hfit hpg hpm hmi a2 ⊢;obtain ⟨om,cm,hxm⟩:=za4 hmi;subst hxm;have rm:=ReadsR.of_own zat hmi;have pA:=za0 kA 2;have i0 : (0 : Int)<=(i : Int):=by omega
  have i1 : (i : Int) < (bks.length : Int):=by omega
  rw [hW0] at pA a2;clear hW0 z0 own own0 hmi
  go_enter Tryz.func241,Tryz.ntmps241
  go_wp2_with fail
  rw [<- HW0.out];clear HW0 pA a2;refine (zf6 _ xr place _ hfit rm).mono ?_
  obtain ⟨p,hpp⟩ : ∃ p,pageOf xr place=p:=⟨_,rfl⟩
  have HPP : Hid (pageOf xr place=p):=hpp;rw [hpp] at hpg hpm ⊢;clear hpp;rintro e w1 ⟨rfl,b1⟩;replace kA:=kb0 b1 kA;have rp1:=(rp.below b1).mono b1.size;replace d0:=za1 d0 b1;clear rm rp b1;by_cases hp : p < 0
  · obtain rfl : p = -1:=by omega
    clear rp1 kA hp hpg hpm
    go_wp2_with fail
    go_ret
    any_goals (exfalso;have hq:=HPP.out;omega)
    exact ⟨zam (by first | (rw [HPP.out];rfl) | rfl | simp [HPP.out]),d0⟩
  · obtain ⟨k,rfl⟩:=Int.eq_ofNat_of_zero_le (show 0<=p by omega)
    have hk : k < ps.length:=by omega
    obtain ⟨_,_,e1,-,c1,-⟩:=rp1;simp only [List.length_map] at e1;cases e1;obtain ⟨gp,off,hgp,-,cc⟩:=c1 k _ (getD_some ps k hk);subst hgp;have q1:=za0 kA 1;have hne : ((k : Int) == -1)=false:=by rw [beq_eq_false_iff_ne];omega
    have j0 : (0 : Int)<=(k : Int):=by omega
    have j1 : (k : Int) < (ps.length : Int):=by omega
    clear c1 kA hp hpg hpm
    go_wp2_with fail
    all_goals first
      | (exfalso;have hq:=HPP.out;omega)
      | (refine bodyPost_ret (v:=.int .i64 (ps[k]'hk)) (by first | simp [results,Tryz.results241,go_sem] | rfl) rfl ⟨zam ?_,d0⟩
         have hq:=HPP.out
         simp [hq,hk])
theorem zm5 (v1 v2 : Value) (cs ps : List Int) (at_ : Int) (w : World) (h1 : Reads w.heap.size w v1 (cs.map (Value.int .i64))) (h2 : Reads w.heap.size w v2 (ps.map (Value.int .i64))) :
    Calls Tryz.prog 282 #[.agg #[v1,v2],.int .i64 at_] w fun e w'=>∃ u1 u2 : Value,e = .returned (.tuple #[.agg #[u1,u2],.bool (shared cs ps at_).2])/\OwnP w.heap.size w' u1 u2 (shared cs ps at_).1.1 (shared cs ps at_).1.2/\Below w.heap.size w w':=by
  obtain ⟨W0,hW0,k0,k1,d0,z0⟩:=zex w v1 v2;have r1:=(h1.below d0).mono d0.size;have r2:=(h2.below d0).mono d0.size;obtain ⟨p0,p1⟩:=cq2 k0;have HW0 : Hid (W0 = _):=hW0;clear hW0 h1 h2
  go_enter Tryz.func282,Tryz.ntmps282
  go_wp2_with fail
  rw [<- HW0.out];clear HW0;refine (zdz v1 v2 cs ps _ r1 r2).mono ?_;rintro e w1 ⟨rfl,b1⟩;replace k0:=(b1.block _ (by omega)).trans k0;replace k1:=(b1.block _ (by omega)).trans k1;replace r1:=(r1.below b1).mono b1.size;replace r2:=(r2.below b1).mono b1.size;replace d0:=za1 d0 b1;have z1 : w.heap.size+1+1<=w1.heap.size:=by have:=b1.size;omega
  clear p0 p1 b1 z0;cases hok : poolOk cs ps
  · have HV : Hid (shared cs ps at_=(([],[]),false)):=by simp [Hid,shared,hok]
    obtain ⟨q0,q1⟩:=cq2 k1;obtain ⟨f0,f1⟩:=oq2 k1;have HS : Hid _:=zcd w w1 (.slice none 0 0) (.slice none 0 0) _ _ (w.heap.size+1) [] [] (by omega) k1 (OwnP.nil _ _) d0;clear k0 k1 r1 r2 hok
    go_wp2_with fail
    exact bodyPost_ret (v:=.tuple #[.agg #[.slice none 0 0,.slice none 0 0],.bool false]) (by simp [results,Tryz.results282,go_sem,za0 HS.out.1]) rfl ⟨.slice none 0 0,.slice none 0 0,by rw [HV.out],by rw [HV.out];exact HS.out.2.1,HS.out.2.2⟩
  · have hb:=(poolOk_iff cs ps).1 hok
    have HP : Hid (ps.length=cs.length):=hb.2.2.1;have hlc : cs.length<=1048576:=by omega
    have hlp : ps.length<=1048576:=by omega
    have hc1 : 1<=cs.length:=hb.1;have HOK : Hid (poolOk cs ps=true):=hok;have HB : Hid (∀ j,j < cs.length->zcc (cs.getD j 0) (ps.getD j 0)=true):=hb.2.2.2;obtain ⟨p0,p1⟩:=cq2 k0;clear hok hb
    go_wp2_with fail
    refine (zfe v1 v2 cs at_ _ r1).mono ?_;rintro e w2 ⟨rfl,b2⟩;replace k0:=kb0 b2 k0;replace k1:=kb0 b2 k1;replace r1:=(r1.below b2).mono b2.size;replace r2:=(r2.below b2).mono b2.size;replace d0:=za1 d0 b2;replace z1:=Nat.le_trans z1 b2.size;clear p0 p1 b2;obtain ⟨p0,p1⟩:=cq2 k0;by_cases hcnt : zas cs at_ < 1\/400<=zas cs at_
    · have HV : Hid (shared cs ps at_=((cs,ps),false)):=by rw [Hid,shared,if_pos HOK.out,if_neg (by omega)]
      generalize zas cs at_=n at hcnt ⊢;rcases hcnt with hcnt | hcnt
      · go_wp2_with fail
        refine (zdc v1 v2 cs ps _ hlc hlp r1 r2).mono ?_;rintro e w4 ⟨u1,u2,rfl,own,b⟩;obtain ⟨o1,c1,rfl⟩:=za4 own.c;obtain ⟨o2,c2,rfl⟩:=za4 own.p;have k14:=kb0 b k1;have HS : Hid _:=zcd w w4 _ _ _ _ (w.heap.size+1) _ _ (by omega) k14 (own.mono z1) (za1 d0 b);obtain ⟨q0,q1⟩:=cq2 k14;obtain ⟨f0,f1⟩:=oq2 k14;clear own b k0 k1 r1 r2 p0 p1 k14
        go_wp2_with fail
        exact bodyPost_ret (v:=.tuple #[.agg #[.slice o1 cs.length c1,.slice o2 ps.length c2],.bool false]) (by simp [results,Tryz.results282,go_sem,za0 HS.out.1]) rfl ⟨.slice o1 cs.length c1,.slice o2 ps.length c2,by rw [HV.out],by rw [HV.out];exact HS.out.2.1,HS.out.2.2⟩
      · have hcn2 : ¬ n < 1:=by omega
        go_wp2_with fail
        refine (zdc v1 v2 cs ps _ hlc hlp r1 r2).mono ?_;rintro e w4 ⟨u1,u2,rfl,own,b⟩;obtain ⟨o1,c1,rfl⟩:=za4 own.c;obtain ⟨o2,c2,rfl⟩:=za4 own.p;have k14:=kb0 b k1;have HS : Hid _:=zcd w w4 _ _ _ _ (w.heap.size+1) _ _ (by omega) k14 (own.mono z1) (za1 d0 b);obtain ⟨q0,q1⟩:=cq2 k14;obtain ⟨f0,f1⟩:=oq2 k14;clear own b k0 k1 r1 r2 p0 p1 k14
        go_wp2_with fail
        exact bodyPost_ret (v:=.tuple #[.agg #[.slice o1 cs.length c1,.slice o2 ps.length c2],.bool false]) (by simp [results,Tryz.results282,go_sem,za0 HS.out.1]) rfl ⟨.slice o1 cs.length c1,.slice o2 ps.length c2,by rw [HV.out],by rw [HV.out];exact HS.out.2.1,HS.out.2.2⟩
    · have hcn : 1<=zas cs at_/\zas cs at_ < 400:=by omega
      obtain ⟨k,rfl,hk,hce⟩:=zjm cs at_ (by omega);have hk2 : k < ps.length:=by rw [HP.out];exact hk
      obtain ⟨o2,cap2,rfl,m2,c2',hroom2⟩:=r2;obtain ⟨g2,off2,rfl,hg2,cc2⟩:=c2' k _ (getD_some ps k hk2);have hl0 : (ps.map (Value.int .i64)).length=ps.length:=by simp
      have r2 : Reads w2.heap.size w2 (.slice (some ⟨g2,off2,none⟩) (ps.map (Value.int .i64)).length cap2) (ps.map (Value.int .i64)):=⟨_,_,rfl,m2,c2',hroom2⟩
      rw [hl0] at k0 r2 p0 p1;have cck:=(cellOk_iff _ _).1 (HB.out k hk);have i0 : (0 : Int)<=(k : Int):=by omega
      have i1 : (k : Int) < (ps.length : Int):=by omega
      clear m2 c2' hroom2 hl0 hcnt HB;have HV : Hid (shared cs ps (k : Int)=((cs.set k (zas cs (k : Int)+1),ps),true)):=by rw [Hid,shared,if_pos HOK.out,if_pos hcn,Int.toNat_natCast]
      generalize zas cs (k : Int)=n at *
      obtain ⟨cs',hcs⟩ : ∃ x,cs.set k (n+1)=x:=⟨_,rfl⟩
      have HPS : Hid (ps.set k (ps.getD k 0)=ps):=zib ps k;rw [hcs] at HV;have HCS : Hid _:=hcs;clear hcs hce cck;generalize ps.getD k 0=y at *;obtain ⟨hcn1,hcn2⟩:=hcn;have hcn3 : ¬ n < 1:=by omega
      have hcn4 : ¬ 400<=n:=by omega
      have hwr : IntKind.i64.wrap (n+1)=n+1:=by rw [IntKind.wrap_i64];omega
      have P0 : w2.drew.cell? ⟨w.heap.size,0,none⟩=some v1:=za0 k0 0;have P1 : w2.drew.cell? ⟨w.heap.size,1,none⟩=some (.slice (some ⟨g2,off2,none⟩) ps.length cap2):=za0 k0 1;have R1 : Reads w2.drew.heap.size w2.drew v1 (cs.map (Value.int .i64)):=r1.below ((Below.refl _ _).drew);have R2 : Reads w2.drew.heap.size w2.drew (.slice (some ⟨g2,off2,none⟩) ps.length cap2) (ps.map (Value.int .i64)):=r2.below ((Below.refl _ _).drew);clear p0 p1
      go_wp2_with fail
      go_region_law (go_simp;go_at_call 259;refine (ze1 v1 _ cs ps k (n+1) y _ cs' ps HCS HPS hlc hlp hk hk2 R1 R2).mono ?_;rintro e w5 ⟨u1,u2,rfl,own5,b5⟩;obtain ⟨o1,c1,rfl⟩:=za4 own5.c;obtain ⟨o3,c3,rfl⟩:=za4 own5.p;have k51:=kb0 b5 k1;have q0:=za0 k51 0;have q1:=za0 k51 1;have f0:=za8 k51 0;have f1:=za8 k51 1;dsimp only)
      all_goals
        have HS : Hid _:=zcd w w5 _ _ _ _ (w.heap.size+1) _ _ (by omega) k51 (own5.mono z1) (za1 (zar d0) b5);clear own5 b5 k51 k0 k1 r1 r2 R1 R2 P0 P1 q0 q1 f0 f1
        go_wp2_with fail
        exact bodyPost_ret (v:=.tuple #[.agg #[.slice o1 cs'.length c1,.slice o3 ps.length c3],.bool true]) (by simp [results,Tryz.results282,go_sem,za0 HS.out.1]) rfl ⟨.slice o1 cs'.length c1,.slice o3 ps.length c3,by rw [HV.out],by rw [HV.out];exact HS.out.2.1,HS.out.2.2⟩
end Go.Proofs.YtfkkapdofjhgpaaGreatDoor
