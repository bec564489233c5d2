import Derived.Test.YtfkkapdofjhgpaaGreatDoorM08
import Derived.Test.YtfkkapdofjhgpaaGreatDoorM12
set_option maxHeartbeats 12800000
namespace Go.Proofs.YtfkkapdofjhgpaaGreatDoor
open Go.RowKit
set_option linter.unusedVariables false
set_option maxRecDepth 100000
theorem zx8 (G : Nat->Prop) (C : Array Value) (T : TypeId) (off base b : Nat) (v1 v2 vb : Value) (bks : List Bk) (s : Sf) (nm ot : ByteArray) (at_ va ep : Int) (w : World) (hn : nm.size<=maxLen) (ho : ot.size<=maxLen) (inv : ShInv s) (st : ShSg G C T off base b w v1 v2 vb bks s) (hok : opOk ⟨2,nm,ot,at_,va,ep⟩=true) (href : za5 s.bs ⟨2,nm,ot,at_,va,ep⟩=0) :
    Calls Tryz.prog 86 #[.pointer (some ⟨b,off,none⟩),.agg #[.int .i64 2,.string nm,.string ot,.int .i64 at_,.int .i64 va,.int .i64 ep]] w (DoPostG G C T off base b v1 v2 s ⟨2,nm,ot,at_,va,ep⟩ w):=by
  obtain ⟨i,hi,hib,hfp,hfb,hat,hbk⟩:=zgu (o:=⟨2,nm,ot,at_,va,ep⟩) st href (show (2 : Int) ≠ 1 by decide);have ha16:=zjq inv hok href (show (2 : Int) ≠ 1 by decide);simp only at hfp hfb hbk ha16;have hmap:=(zaw (inv.oks _ (List.getElem_mem hib))).2.2.2.1;have HD : Hid (doOp s ⟨2,nm,ot,at_,va,ep⟩=doKind s ⟨2,nm,ot,at_,va,ep⟩ i s.bs[i] ((za7 s.bs[i].rs).getD at_.toNat 0)):=zig hok href (show (2 : Int) ≠ 1/\(2 : Int) ≠ 6/\kOther 2=false by decide) hfp hbk ha16.2;have hva:=(zc9 hok).2.2.2.2.2 rfl;simp only at hva;obtain ⟨ob,cap,hvf⟩:=za4 st.books.row;subst hvf;have hbase : base<=w.heap.size:=st.hbase;have HGG : Hid (∀ k,w.heap.size<=k->¬ G k):=fun k hk q=>by have:=st.gl k q;omega
  have HTY : Hid (HoldsSh T):=st.hT;have hfew : bks.length<=6:=by rw [st.len];exact inv.few
  obtain ⟨W0,hW0,k0,k1,d0,z0⟩:=zc7 w #[.int .i64 2,.string nm,.string ot,.int .i64 at_,.int .i64 va,.int .i64 ep] #[.int .i64 0,.int .i64 0] 37 43;have HW0 : Hid (W0 = _):=hW0;have st0:=st.below d0;clear hW0 z0
  go_enter Tryz.func86,Tryz.ntmps86
  go_wp2_with fail
  rw [<- HW0.out];clear HW0;refine (zbl 2 nm ot at_ va ep _ hn ho).mono ?_;rintro e w1 ⟨rfl,b1⟩;rw [hok];replace k0:=kb0 b1 k0;replace k1:=kb0 b1 k1;replace st0:=st0.below b1;replace d0:=za1 d0 b1;clear b1;have hne:=BelowOf.any w1;have rb : ReadsR 5 bookC w1.heap.size w1 (.slice ob bks.length cap) bks:=ReadsR.of_own zae st0.books.row;have hfm:=st0.forms
  have H1 : ∀ q : BelowOf w1,Calls Tryz.prog 139 #[.slice ob bks.length cap,.agg #[.int .i64 2,.string nm,.string ot,.int .i64 at_,.int .i64 va,.int .i64 ep]] q.w' fun e w'=>e = .returned (.int .i64 0)/\Below q.w'.heap.size q.w' w':=fun q=>by
    have h:=zbm (.slice ob bks.length cap) bks 2 nm ot at_ va ep q.w' (by omega) (rb.of (Nat.le_refl _) q) hfm;rw [st.eq,href] at h;exact h
  have c0:=BelowOf.cell (v:=.int .i64 2) (za0 k0 0) (za2 k0);have c1:=BelowOf.cell (v:=.string nm) (za0 k0 1) (za2 k0);have c2:=BelowOf.cell (v:=.string ot) (za0 k0 2) (za2 k0);have c3:=BelowOf.cell (v:=.int .i64 at_) (za0 k0 3) (za2 k0);have c4:=BelowOf.cell (v:=.int .i64 va) (za0 k0 4) (za2 k0);have c5:=BelowOf.cell (v:=.int .i64 ep) (za0 k0 5) (za2 k0);have cB:=BelowOf.cell (v:=.slice ob bks.length cap) (st0.c2) (st0.lt)
  go_wp2_with fail
  refine zad (by kernel_rfl) (by kernel_rfl) ?_
  repeat (go_big_quiet_step ((first | (go_at_call 139;with_reducible exact zb1 (H1 _)) | rfl)))
  refine wpQuiet_nil ?_;intro w2 hw2;obtain ⟨⟨wx,cx⟩,hwx⟩:=hw2;have b2 : Below w1.heap.size w1 w2:=by rw [hwx];exact cx
  clear hwx cx wx hne c0 c1 c2 c3 c4 c5 cB H1 rb;replace k0:=kb0 b2 k0;replace k1:=kb0 b2 k1;replace st0:=st0.below b2;replace d0:=za1 d0 b2;clear b2;have hne:=BelowOf.any w2;have rb : ReadsR 5 bookC w2.heap.size w2 (.slice ob bks.length cap) bks:=ReadsR.of_own zae st0.books.row
  have H2 : ∀ q : BelowOf w2,Calls Tryz.prog 140 #[.slice ob bks.length cap,.string nm] q.w' fun e w'=>e = .returned (.int .i64 i)/\w'=q.w':=fun q=>by
    have h:=zap (.slice ob bks.length cap) bks nm q.w' (rb.of (Nat.le_refl _) q);rw [hfb] at h;exact h
  have c1:=BelowOf.cell (v:=.string nm) (za0 k0 1) (za2 k0);have cB:=BelowOf.cell (v:=.slice ob bks.length cap) (st0.c2) (st0.lt)
  go_wp2_with fail
  refine zad (by kernel_rfl) (by kernel_rfl) ?_
  repeat (go_big_quiet_step ((first | (go_at_call 140;with_reducible exact zbw (H2 _)) | rfl)))
  refine wpQuiet_nil ?_;intro w3 hw3;obtain ⟨⟨wx,cx⟩,hwx⟩:=hw3;have b3 : Below w2.heap.size w2 w3:=by rw [hwx];exact cx
  clear hwx cx wx hne c1 cB H2 rb;replace k0:=kb0 b3 k0;replace k1:=kb0 b3 k1;replace st0:=st0.below b3;replace d0:=za1 d0 b3;clear b3;obtain ⟨g,hob⟩:=zdn st0.books.row (by omega);subst hob;obtain ⟨⟨a0,a1,a2,a3,a4⟩,e0,e1,e2,e3,e4⟩:=zaz st0.books.row i hi;have rm : ReadsR 3 zak w3.heap.size w3 bks[i].m bks[i].rs:=ReadsR.of_own zat (st0.books.maps _ (List.getElem_mem hi));rw [hat] at hmap HD
  obtain ⟨x,hx⟩ : ∃ x,bks[i]=x:=⟨_,rfl⟩
  have HX : Hid (bks[i]=x):=hx;rw [hx] at a0 a1 a2 a3 a4 rm hmap HD;clear hx;obtain ⟨xn,xz,xm,rs,xf,xe⟩:=x;simp only [Bk.pb] at a0 a1 a2 a3 a4 rm hmap HD;obtain ⟨mo,mc,hmf⟩:=rm.form;subst hmf;have HMP : Hid _:=hmap;have hpl:=zac rs;have pB:=st0.c2;have p0:=za0 k0 0;have p3:=za0 k0 3;have i0 : (0 : Int)<=(i : Int):=by omega
  have i1 : (i : Int) < (bks.length : Int):=by omega
  obtain ⟨a,haa⟩:=Int.eq_ofNat_of_zero_le ha16.1;subst haa;clear hmap e0 e1 e2 e3 e4 a0 a1 a3 a4 hat hbk hfp hfb
  go_wp2_with fail
  refine (zco _ rs _ HMP.out rm).mono ?_;rintro e w4 ⟨gp,cp,rfl,ownp,b4⟩;replace k0:=kb0 b4 k0;replace k1:=kb0 b4 k1;have W3S:=Nat.le_of_lt (st0.lt);have hws3 : w.heap.size<=w3.heap.size:=by have:=d0.size;omega
  have hbase3 : base<=w3.heap.size:=Nat.le_trans st0.lo W3S;have stP:=st0.pool;replace st0:=st0.below b4;replace d0:=za1 d0 b4;have hpa : a < (za7 rs).length:=by rw [hpl];omega
  have cA:=(ownp.cellAt a (by omega)).trans (getD_some (za7 rs) a hpa);have a0' : (0 : Int)<=(a : Int):=by omega
  have a1' : (a : Int) < 16:=by omega
  clear b4 rm pB p0 p3 a2;rw [Int.toNat_natCast] at HD;have hpr:=zbg rs HMP.out a (by omega);have HPGS : Hid _:=fun (h : 0<=(za7 rs).getD a 0)=>inv.page i hib ((za7 rs).getD a 0) (by rw [show s.bs[i].rs=rs by have h1:=st.eq;simp only [<- h1,List.getElem_map,HX.out,Bk.pb]];exact (zct _ hpl _).2 ⟨a,by omega,rfl⟩) h
  have hvlt : ∀ q,v1.ownBlock=some q\/v2.ownBlock=some q->q < w3.heap.size:=fun q h=>by
    rcases h with h | h
    · exact (stP.c.lt q h).2
    · exact (stP.p.lt q h).2
  have hlen24:=inv.n1;have hpp:=inv.cells.p;have HPR : Hid _:=zbg rs HMP.out
  obtain ⟨page,hpage⟩ : ∃ page,(za7 rs).getD a 0=page:=⟨_,rfl⟩
  rw [hpage] at cA hpr HPGS HD;have HPE : Hid _:=hpage;clear hpage;obtain ⟨g1,c1,g2,c2,hv1,hv2,hne12⟩:=zfs st0.pool (by omega) hpp;subst hv1 hv2;have p0:=za0 k0 0;have p3:=za0 k0 3;by_cases hpg : page < 0
  · skip
    have k1d:=k1;have stD:=st0.below ((Below.refl _ _).drew);have ownD : w4.drew.ownsRow w3.heap.size 2 1 (.slice (some ⟨gp,0,none⟩) 16 cp) 16 ((za7 rs).map (Value.int .i64)):=ownp;have p4d : w4.drew.cell? ⟨w.heap.size,4,none⟩=some (.int .i64 va):=za0 k0 4;clear k1d
    go_wp2_with fail
    go_region_law (go_simp;go_at_call 147;refine (zse b off base _ _ s.cs s.ps va _ stD.c0 stD.c1 stD.n1 stD.n2 stD.pool (by omega) (by omega) (by omega)).mono ?_;rintro e w5 ⟨rfl,own5,only5⟩;dsimp only)
    have st5:=stD.pooled own5 only5;have ownp5:=zci ownD only5 hvlt;have onW : Only (ShW b (.slice (some ⟨g1,0,none⟩) s.cs.length c1) (.slice (some ⟨g2,0,none⟩) s.ps.length c2) (.slice (some ⟨g,0,none⟩) bks.length cap)) w4.drew w5:=only5.mono (fun i hi=>hi.elim (fun q=>.inr (.inl q)) (fun q=>.inr (.inr (.inl q))));replace k0:=stD.keeps (n:=w.heap.size) onW k0 HTY.out.o (by decide) (by decide);replace k1:=stD.keeps (n:=w.heap.size+1) onW k1 HTY.out.rp (by decide) (by decide);have d5:=(zdu hbase d0).drew.trans (stD.only_below onW);clear own5 only5 onW p4d cA p0 p3;have p0:=za0 k0 0;have p3:=za0 k0 3;by_cases hff : zaf s.cs < s.cs.length
    · obtain ⟨ff,hfe⟩ : ∃ ff,zaf s.cs=ff:=⟨_,rfl⟩
      have hta : tookAt s.cs=(ff : Int):=by rw [tookAt,if_pos hff,hfe]
      have HTC : Hid _:=inv.cells.took va hva hff;have hff2 : ff < s.cs.length:=by omega
      have HDD : Hid (doOp s ⟨2,nm,ot,(a : Int),va,ep⟩=(⟨tookC s.cs,tookP s.cs s.ps va,s.bs.set i ⟨xn,xz,mapOf ((za7 rs).set a (ff : Int)),xf,xe⟩⟩,(0,0))):=by
        rw [Hid,HD.out,kind_2,doWrite,if_neg ((by omega)),if_pos hff,hta,zpc (by omega),Int.toNat_natCast]
      skip
      have HL : Hid (((za7 rs).set a (ff : Int)).length=16):=by rw [Hid,List.length_set,hpl]
      have HRG : Hid (∀ j,j < 16->-1<=((za7 rs).set a (ff : Int)).getD j 0/\((za7 rs).set a (ff : Int)).getD j 0<=23):=fun j hj=>by
        rw [zd2 _ a j _ hpa]
        split
        · omega
        · exact HPR.out j hj
      rw [hta];clear hta hfe hff HD;have hB:=(ownp5.lt gp rfl).1;have hbg : base<=gp:=Nat.le_trans hbase3 hB;have c0:=ownp5.cellAt a (by omega);have c0f:=ownp5.frozenAt a;have c0s:=c0.trans (getD_some (za7 rs) a hpa);have hst:=(ownp5.stored a (.int .i64 (ff : Int))).1;rw [<- List.map_set] at hst;have st6:=st5.beside (j:=a) ownp5 hvlt (.int .i64 (ff : Int));have n0 : w.heap.size ≠ gp:=fun e=>zaa ownp5 k0 (by decide) (by rw [e];rfl)
      have n1 : w.heap.size+1 ≠ gp:=fun e=>zaa ownp5 k1 (by decide) (by rw [e];rfl)
      have m0:=(Below.heap_setCell w5 ⟨gp,a,none⟩ (.int .i64 (ff : Int)) w.heap.size n0).trans k0;have m1:=(Below.heap_setCell w5 ⟨gp,a,none⟩ (.int .i64 (ff : Int)) (w.heap.size+1) n1).trans k1;have d6 : Fr G base w (w5.setCell ⟨gp,a,none⟩ (.int .i64 (ff : Int))):=d5.set ⟨gp,a,none⟩ hbg (show ¬ G gp from HGG.out gp (by omega)) _;have rd:=Reads.of_own hst;have HRD : Hid _:=rd;have HST6 : Hid _:=st6;have HM6 : Hid _:=And.intro m0 (And.intro m1 d6);have p3:=za0 k0 3;have hgg : ¬ gp=g:=fun e=>zbh st5.books.row ownp5 (by decide) gp rfl (by rw [e];rfl)
      have hgg' : ¬ g=gp:=fun e=>hgg e.symm
      generalize (za7 rs).getD a 0=yy at c0s;clear rd st6 m0 m1 d6 hst c0 k0 k1
      go_wp2_with fail
      refine (zha _ ((za7 rs).set a (ff : Int)) _ HL.out HRG.out HRD.out).mono ?_;rintro e w7 ⟨v7,rfl,own7,hn7,b7⟩;have st7:=HST6.out.below b7;have k1:=(b7.block _ (za2 HM6.out.2.1)).trans HM6.out.2.1;have hb6 : base<=(w5.setCell ⟨gp,a,none⟩ (.int .i64 (ff : Int))).heap.size:=HST6.out.hbase;have d7:=HM6.out.2.2.trans (zdu hb6 b7);obtain ⟨⟨-,-,c2,-,-⟩,-,-,e2,-,-⟩:=zaz st7.books.row i hi;rw [HX.out] at c2;simp only at c2;obtain ⟨o7,c7,hv7⟩:=za4 own7;subst hv7;obtain ⟨st8,b8⟩:=st7.put i 2 hi (by decide) ⟨xn,xz,.slice o7 (mapOf ((za7 rs).set a (ff : Int))).length c7,mapOf ((za7 rs).set a (ff : Int)),xf,xe⟩ (.slice o7 (mapOf ((za7 rs).set a (ff : Int))).length c7) (by rw [HX.out];rfl) (zah own7 hb6);have hgn : ¬ g=w.heap.size+1:=fun e=>zaa st7.books.row k1 (by decide) (by rw [<- e];rfl)
      have hgn' : ¬ w.heap.size+1=g:=fun e=>hgn e.symm
      have k8:=(Below.heap_setCell w7 ⟨g,i * 5+2,none⟩ (.slice o7 (mapOf ((za7 rs).set a (ff : Int))).length c7) (w.heap.size+1) hgn').trans k1;have HS : Hid _:=zcb (HDD.out) (Nat.le_succ_of_le hbase) (HGG.out _ (by omega)) k8 st8 (d7.trans b8);obtain ⟨q0,q1⟩:=cq2 k1;obtain ⟨f0,f1⟩:=oq2 k1;clear k1 k8 st7 st8 b8 d7 own7 hn7 b7 HST6 HM6 HRD
      go_wp2_with fail
      exact bodyPost_ret (v:=.agg #[.int .i64 0,.int .i64 0]) (by simp [results,Tryz.results86,go_sem,za0 HS.out.1]) rfl HS.out.2
    · have hta : tookAt s.cs = -1:=by rw [tookAt,if_neg hff]
      have htc : tookC s.cs=s.cs:=by rw [tookC,if_neg hff]
      have htp : tookP s.cs s.ps va=s.ps:=by rw [tookP,if_neg hff]
      rw [htc,htp] at st5;have HS : Hid _:=zcb (show doOp s ⟨2,nm,ot,(a : Int),va,ep⟩=(s,(9,0)) by rw [HD.out,kind_2,doWrite,if_neg ((by omega)),if_neg hff]) (Nat.le_succ_of_le hbase) (HGG.out _ (by omega)) k1 st5 d5;rw [hta];obtain ⟨q0,q1⟩:=cq2 k1;obtain ⟨f0,f1⟩:=oq2 k1;clear k0 k1 st0 st5 stD d0 d5 st HD htc htp hta hff ownp ownD ownp5
      go_wp2_with fail
      exact bodyPost_ret (v:=.agg #[.int .i64 9,.int .i64 0]) (by simp [results,Tryz.results86,go_sem,za0 HS.out.1]) rfl HS.out.2
  · obtain ⟨kp,hkp⟩:=Int.eq_ofNat_of_zero_le (show 0<=page by omega)
    subst hkp;obtain ⟨hk1,hk2⟩:=HPGS.out (by omega);rw [Int.toNat_natCast] at hk2
    have hk4 : s.cs.getD kp 0<=16 * 6:=by
      have h1:=inv.cnt kp (by omega);have h2:=ze5 s.bs (kp : Int);have h3:=inv.few
      omega
    have b0:=st0.c0;have cC:=(st0.pool.c.cellAt kp (by omega)).trans (getD_some s.cs kp (by omega));have j0 : (0 : Int)<=(kp : Int):=by omega
    have j1 : (kp : Int) < (s.cs.length : Int):=by omega
    by_cases hc1 : s.cs.getD kp 0=1
    · rw [hc1] at cC
      have own5:=st0.pool.set2 kp va;have hoS : Only (fun q=>(Value.slice (some ⟨g1,0,none⟩) s.cs.length c1).ownBlock=some q\/(Value.slice (some ⟨g2,0,none⟩) s.ps.length c2).ownBlock=some q) w4 (w4.setCell ⟨g2,kp,none⟩ (.int .i64 va)):=(Only.refl _ w4).setCell ⟨g2,kp,none⟩ (.inr rfl) _;have st5:=st0.pooled own5 hoS;have b5:=st0.pool_only hoS;have hgn' : ¬ w.heap.size+1=g2:=fun e=>zaa st0.pool.p k1 (by decide) (by rw [e];rfl)
      have hgn : ¬ g2=w.heap.size+1:=fun e=>hgn' e.symm
      have k5:=(Below.heap_setCell w4 ⟨g2,kp,none⟩ (.int .i64 va) (w.heap.size+1) hgn').trans k1;have HS : Hid _:=zcb (show doOp s ⟨2,nm,ot,(a : Int),va,ep⟩=(⟨s.cs,s.ps.set kp va,s.bs⟩,(0,0)) by rw [HD.out,kind_2,doWrite,if_pos (by rw [Int.toNat_natCast];exact ⟨by omega,hc1⟩),Int.toNat_natCast]) (Nat.le_succ_of_le hbase) (HGG.out _ (by omega)) k5 st5 ((zdu hbase d0).trans b5);have hkl : kp < s.ps.length:=by rw [hpp];omega
      have cV : w4.drew.cell? ⟨g2,kp,none⟩=some (.int .i64 (s.ps.getD kp 0)):=(st0.pool.p.cellAt kp (by omega)).trans (getD_some s.ps kp hkl);have fV : w4.drew.frozen? ⟨g2,kp,none⟩=false:=st0.pool.p.frozenAt kp;have b1d : w4.drew.cell? ⟨b,off+1,none⟩=some (.slice (some ⟨g2,0,none⟩) s.ps.length c2):=st0.c1;have p4d : w4.drew.cell? ⟨w.heap.size,4,none⟩=some (.int .i64 va):=za0 k0 4;have j2 : (kp : Int) < (s.ps.length : Int):=by omega
      obtain ⟨q0,q1⟩:=cq2 k1;obtain ⟨f0,f1⟩:=oq2 k1;clear k0 k1 k5 st0 st5 own5 hoS b5 d0 st HD ownp stP;generalize s.ps.getD kp 0=y at cV
      go_wp2_with fail
      go_region
      go_wp2_with fail
      exact bodyPost_ret (v:=.agg #[.int .i64 0,.int .i64 0]) (by simp [results,Tryz.results86,go_sem,za0 HS.out.1]) rfl HS.out.2.drew
    · obtain ⟨cc,hcc⟩ : ∃ cc,s.cs.getD kp 0=cc:=⟨_,rfl⟩
      have HCC : Hid _:=hcc;have HC1 : Hid _:=hc1;rw [hcc] at cC hc1;have hcb : (cc == 1)=false:=by rw [beq_eq_false_iff_ne];exact hc1
      clear hcc;have k1d:=k1;have stD:=st0.below ((Below.refl _ _).drew);have ownD : w4.drew.ownsRow w3.heap.size 2 1 (.slice (some ⟨gp,0,none⟩) 16 cp) 16 ((za7 rs).map (Value.int .i64)):=ownp;have p4d : w4.drew.cell? ⟨w.heap.size,4,none⟩=some (.int .i64 va):=za0 k0 4;clear k1d
      go_wp2_with fail
      go_region_law (go_simp;go_at_call 147;refine (zse b off base _ _ s.cs s.ps va _ stD.c0 stD.c1 stD.n1 stD.n2 stD.pool (by omega) (by omega) (by omega)).mono ?_;rintro e w5 ⟨rfl,own5,only5⟩;dsimp only)
      have st5:=stD.pooled own5 only5;have ownp5:=zci ownD only5 hvlt;have onW : Only (ShW b (.slice (some ⟨g1,0,none⟩) s.cs.length c1) (.slice (some ⟨g2,0,none⟩) s.ps.length c2) (.slice (some ⟨g,0,none⟩) bks.length cap)) w4.drew w5:=only5.mono (fun i hi=>hi.elim (fun q=>.inr (.inl q)) (fun q=>.inr (.inr (.inl q))));replace k0:=stD.keeps (n:=w.heap.size) onW k0 HTY.out.o (by decide) (by decide);replace k1:=stD.keeps (n:=w.heap.size+1) onW k1 HTY.out.rp (by decide) (by decide);have d5:=(zdu hbase d0).drew.trans (stD.only_below onW);clear own5 only5 onW p4d cA p0 p3;have p0:=za0 k0 0;have p3:=za0 k0 3;by_cases hff : zaf s.cs < s.cs.length
      · obtain ⟨ff,hfe⟩ : ∃ ff,zaf s.cs=ff:=⟨_,rfl⟩
        have hta : tookAt s.cs=(ff : Int):=by rw [tookAt,if_pos hff,hfe]
        have HTC : Hid _:=inv.cells.took va hva hff;have hff2 : ff < s.cs.length:=by omega
        have HDD : Hid (doOp s ⟨2,nm,ot,(a : Int),va,ep⟩=(⟨(tookC s.cs).set kp ((tookC s.cs).getD kp 0 - 1),if (tookC s.cs).getD kp 0=1 then (tookP s.cs s.ps va).set kp 0 else tookP s.cs s.ps va,s.bs.set i ⟨xn,xz,mapOf ((za7 rs).set a (ff : Int)),xf,xe⟩⟩,(0,0))):=by
          rw [Hid,HD.out,kind_2,doWrite,if_neg ((fun h=>HC1.out h.2)),if_pos hff,hta,zl7 rfl,Int.toNat_natCast]
        have HTK : Hid (1<=(tookC s.cs).getD kp 0/\(tookC s.cs).getD kp 0<=400):=by have h1:=HTC.out.2 kp (by omega);rw [Hid,h1,hta];split <;> omega
        have HL : Hid (((za7 rs).set a (ff : Int)).length=16):=by rw [Hid,List.length_set,hpl]
        have HRG : Hid (∀ j,j < 16->-1<=((za7 rs).set a (ff : Int)).getD j 0/\((za7 rs).set a (ff : Int)).getD j 0<=23):=fun j hj=>by
          rw [zd2 _ a j _ hpa]
          split
          · omega
          · exact HPR.out j hj
        rw [hta];clear hta hfe hff HD
        go_wp2_with fail
        clear p0 p3;refine (zo1 b off base kp _ _ (tookC s.cs) (tookP s.cs s.ps va) _ st5.c0 st5.c1 st5.n1 st5.n2 st5.pool (by rw [HTC.out.1.c];omega) (by rw [HTC.out.1.c];omega) (by rw [HTC.out.1.p,HTC.out.1.c]) (HTK.out)).mono ?_;rintro e w6 ⟨rfl,own6,only6⟩;have st6x:=st5.pooled own6 only6;have ownp6x:=zci ownp5 only6 hvlt;have onW6 : Only (ShW b (.slice (some ⟨g1,0,none⟩) s.cs.length c1) (.slice (some ⟨g2,0,none⟩) s.ps.length c2) (.slice (some ⟨g,0,none⟩) bks.length cap)) w5 w6:=only6.mono (fun i hi=>hi.elim (fun q=>.inr (.inl q)) (fun q=>.inr (.inr (.inl q))));replace k0:=st5.keeps onW6 k0 HTY.out.o (by decide) (by decide);replace k1:=st5.keeps onW6 k1 HTY.out.rp (by decide) (by decide);have d6x:=d5.trans (st5.only_below onW6);clear own6 only6 onW6;have hB:=(ownp6x.lt gp rfl).1;have hbg : base<=gp:=Nat.le_trans hbase3 hB;have c0:=ownp6x.cellAt a (by omega);have c0f:=ownp6x.frozenAt a;have c0s:=c0.trans (getD_some (za7 rs) a hpa);have hst:=(ownp6x.stored a (.int .i64 (ff : Int))).1;rw [<- List.map_set] at hst;have st6:=st6x.beside (j:=a) ownp6x hvlt (.int .i64 (ff : Int));have n0 : w.heap.size ≠ gp:=fun e=>zaa ownp6x k0 (by decide) (by rw [e];rfl)
        have n1 : w.heap.size+1 ≠ gp:=fun e=>zaa ownp6x k1 (by decide) (by rw [e];rfl)
        have m0:=(Below.heap_setCell w6 ⟨gp,a,none⟩ (.int .i64 (ff : Int)) w.heap.size n0).trans k0;have m1:=(Below.heap_setCell w6 ⟨gp,a,none⟩ (.int .i64 (ff : Int)) (w.heap.size+1) n1).trans k1;have d6 : Fr G base w (w6.setCell ⟨gp,a,none⟩ (.int .i64 (ff : Int))):=d6x.set ⟨gp,a,none⟩ hbg (show ¬ G gp from HGG.out gp (by omega)) _;have rd:=Reads.of_own hst;have HRD : Hid _:=rd;have HST6 : Hid _:=st6;have HM6 : Hid _:=And.intro m0 (And.intro m1 d6);have p3:=za0 k0 3;have hgg : ¬ gp=g:=fun e=>zbh st6x.books.row ownp6x (by decide) gp rfl (by rw [e];rfl)
        have hgg' : ¬ g=gp:=fun e=>hgg e.symm
        generalize (za7 rs).getD a 0=yy at c0s;clear rd st6 m0 m1 d6 hst c0 k0 k1
        go_wp2_with fail
        refine (zha _ ((za7 rs).set a (ff : Int)) _ HL.out HRG.out HRD.out).mono ?_;rintro e w7 ⟨v7,rfl,own7,hn7,b7⟩;have st7:=HST6.out.below b7;have k1:=(b7.block _ (za2 HM6.out.2.1)).trans HM6.out.2.1;have hb6 : base<=(w6.setCell ⟨gp,a,none⟩ (.int .i64 (ff : Int))).heap.size:=HST6.out.hbase;have d7:=HM6.out.2.2.trans (zdu hb6 b7);obtain ⟨⟨-,-,c2,-,-⟩,-,-,e2,-,-⟩:=zaz st7.books.row i hi;rw [HX.out] at c2;simp only at c2;obtain ⟨o7,c7,hv7⟩:=za4 own7;subst hv7;obtain ⟨st8,b8⟩:=st7.put i 2 hi (by decide) ⟨xn,xz,.slice o7 (mapOf ((za7 rs).set a (ff : Int))).length c7,mapOf ((za7 rs).set a (ff : Int)),xf,xe⟩ (.slice o7 (mapOf ((za7 rs).set a (ff : Int))).length c7) (by rw [HX.out];rfl) (zah own7 hb6);have hgn : ¬ g=w.heap.size+1:=fun e=>zaa st7.books.row k1 (by decide) (by rw [<- e];rfl)
        have hgn' : ¬ w.heap.size+1=g:=fun e=>hgn e.symm
        have k8:=(Below.heap_setCell w7 ⟨g,i * 5+2,none⟩ (.slice o7 (mapOf ((za7 rs).set a (ff : Int))).length c7) (w.heap.size+1) hgn').trans k1;have HS : Hid _:=zcb (HDD.out) (Nat.le_succ_of_le hbase) (HGG.out _ (by omega)) k8 st8 (d7.trans b8);obtain ⟨q0,q1⟩:=cq2 k1;obtain ⟨f0,f1⟩:=oq2 k1;clear k1 k8 st7 st8 b8 d7 own7 hn7 b7 HST6 HM6 HRD
        go_wp2_with fail
        exact bodyPost_ret (v:=.agg #[.int .i64 0,.int .i64 0]) (by simp [results,Tryz.results86,go_sem,za0 HS.out.1]) rfl HS.out.2
      · have hta : tookAt s.cs = -1:=by rw [tookAt,if_neg hff]
        have htc : tookC s.cs=s.cs:=by rw [tookC,if_neg hff]
        have htp : tookP s.cs s.ps va=s.ps:=by rw [tookP,if_neg hff]
        rw [htc,htp] at st5;have HS : Hid _:=zcb (show doOp s ⟨2,nm,ot,(a : Int),va,ep⟩=(s,(9,0)) by rw [HD.out,kind_2,doWrite,if_neg ((fun h=>HC1.out h.2)),if_neg hff]) (Nat.le_succ_of_le hbase) (HGG.out _ (by omega)) k1 st5 d5;rw [hta];obtain ⟨q0,q1⟩:=cq2 k1;obtain ⟨f0,f1⟩:=oq2 k1;clear k0 k1 st0 st5 stD d0 d5 st HD htc htp hta hff ownp ownD ownp5
        go_wp2_with fail
        exact bodyPost_ret (v:=.agg #[.int .i64 9,.int .i64 0]) (by simp [results,Tryz.results86,go_sem,za0 HS.out.1]) rfl HS.out.2
theorem zx9 (G : Nat->Prop) (C : Array Value) (T : TypeId) (off base b : Nat) (v1 v2 vb : Value) (bks : List Bk) (s : Sf) (nm ot : ByteArray) (at_ va ep : Int) (w : World) (hn : nm.size<=maxLen) (ho : ot.size<=maxLen) (inv : ShInv s) (st : ShSg G C T off base b w v1 v2 vb bks s) (hok : opOk ⟨3,nm,ot,at_,va,ep⟩=true) (href : za5 s.bs ⟨3,nm,ot,at_,va,ep⟩=0) :
    Calls Tryz.prog 86 #[.pointer (some ⟨b,off,none⟩),.agg #[.int .i64 3,.string nm,.string ot,.int .i64 at_,.int .i64 va,.int .i64 ep]] w (DoPostG G C T off base b v1 v2 s ⟨3,nm,ot,at_,va,ep⟩ w):=by
  obtain ⟨i,hi,hib,hfp,hfb,hat,hbk⟩:=zgu (o:=⟨3,nm,ot,at_,va,ep⟩) st href (show (3 : Int) ≠ 1 by decide);have ha16:=zjq inv hok href (show (3 : Int) ≠ 1 by decide);simp only at hfp hfb hbk ha16;have hmap:=(zaw (inv.oks _ (List.getElem_mem hib))).2.2.2.1;have HD : Hid (doOp s ⟨3,nm,ot,at_,va,ep⟩=doKind s ⟨3,nm,ot,at_,va,ep⟩ i s.bs[i] ((za7 s.bs[i].rs).getD at_.toNat 0)):=zig hok href (show (3 : Int) ≠ 1/\(3 : Int) ≠ 6/\kOther 3=false by decide) hfp hbk ha16.2;obtain ⟨ob,cap,hvf⟩:=za4 st.books.row;subst hvf;have hbase : base<=w.heap.size:=st.hbase;have HGG : Hid (∀ k,w.heap.size<=k->¬ G k):=fun k hk q=>by have:=st.gl k q;omega
  have HTY : Hid (HoldsSh T):=st.hT;have hfew : bks.length<=6:=by rw [st.len];exact inv.few
  obtain ⟨W0,hW0,k0,k1,d0,z0⟩:=zc7 w #[.int .i64 3,.string nm,.string ot,.int .i64 at_,.int .i64 va,.int .i64 ep] #[.int .i64 0,.int .i64 0] 37 43;have HW0 : Hid (W0 = _):=hW0;have st0:=st.below d0;clear hW0 z0
  go_enter Tryz.func86,Tryz.ntmps86
  go_wp2_with fail
  rw [<- HW0.out];clear HW0;refine (zbl 3 nm ot at_ va ep _ hn ho).mono ?_;rintro e w1 ⟨rfl,b1⟩;rw [hok];replace k0:=kb0 b1 k0;replace k1:=kb0 b1 k1;replace st0:=st0.below b1;replace d0:=za1 d0 b1;clear b1;have hne:=BelowOf.any w1;have rb : ReadsR 5 bookC w1.heap.size w1 (.slice ob bks.length cap) bks:=ReadsR.of_own zae st0.books.row;have hfm:=st0.forms
  have H1 : ∀ q : BelowOf w1,Calls Tryz.prog 139 #[.slice ob bks.length cap,.agg #[.int .i64 3,.string nm,.string ot,.int .i64 at_,.int .i64 va,.int .i64 ep]] q.w' fun e w'=>e = .returned (.int .i64 0)/\Below q.w'.heap.size q.w' w':=fun q=>by
    have h:=zbm (.slice ob bks.length cap) bks 3 nm ot at_ va ep q.w' (by omega) (rb.of (Nat.le_refl _) q) hfm;rw [st.eq,href] at h;exact h
  have c0:=BelowOf.cell (v:=.int .i64 3) (za0 k0 0) (za2 k0);have c1:=BelowOf.cell (v:=.string nm) (za0 k0 1) (za2 k0);have c2:=BelowOf.cell (v:=.string ot) (za0 k0 2) (za2 k0);have c3:=BelowOf.cell (v:=.int .i64 at_) (za0 k0 3) (za2 k0);have c4:=BelowOf.cell (v:=.int .i64 va) (za0 k0 4) (za2 k0);have c5:=BelowOf.cell (v:=.int .i64 ep) (za0 k0 5) (za2 k0);have cB:=BelowOf.cell (v:=.slice ob bks.length cap) (st0.c2) (st0.lt)
  go_wp2_with fail
  refine zad (by kernel_rfl) (by kernel_rfl) ?_
  repeat (go_big_quiet_step ((first | (go_at_call 139;with_reducible exact zb1 (H1 _)) | rfl)))
  refine wpQuiet_nil ?_;intro w2 hw2;obtain ⟨⟨wx,cx⟩,hwx⟩:=hw2;have b2 : Below w1.heap.size w1 w2:=by rw [hwx];exact cx
  clear hwx cx wx hne c0 c1 c2 c3 c4 c5 cB H1 rb;replace k0:=kb0 b2 k0;replace k1:=kb0 b2 k1;replace st0:=st0.below b2;replace d0:=za1 d0 b2;clear b2;have hne:=BelowOf.any w2;have rb : ReadsR 5 bookC w2.heap.size w2 (.slice ob bks.length cap) bks:=ReadsR.of_own zae st0.books.row
  have H2 : ∀ q : BelowOf w2,Calls Tryz.prog 140 #[.slice ob bks.length cap,.string nm] q.w' fun e w'=>e = .returned (.int .i64 i)/\w'=q.w':=fun q=>by
    have h:=zap (.slice ob bks.length cap) bks nm q.w' (rb.of (Nat.le_refl _) q);rw [hfb] at h;exact h
  have c1:=BelowOf.cell (v:=.string nm) (za0 k0 1) (za2 k0);have cB:=BelowOf.cell (v:=.slice ob bks.length cap) (st0.c2) (st0.lt)
  go_wp2_with fail
  refine zad (by kernel_rfl) (by kernel_rfl) ?_
  repeat (go_big_quiet_step ((first | (go_at_call 140;with_reducible exact zbw (H2 _)) | rfl)))
  refine wpQuiet_nil ?_;intro w3 hw3;obtain ⟨⟨wx,cx⟩,hwx⟩:=hw3;have b3 : Below w2.heap.size w2 w3:=by rw [hwx];exact cx
  clear hwx cx wx hne c1 cB H2 rb;replace k0:=kb0 b3 k0;replace k1:=kb0 b3 k1;replace st0:=st0.below b3;replace d0:=za1 d0 b3;clear b3;obtain ⟨g,hob⟩:=zdn st0.books.row (by omega);subst hob;obtain ⟨⟨a0,a1,a2,a3,a4⟩,e0,e1,e2,e3,e4⟩:=zaz st0.books.row i hi;have rm : ReadsR 3 zak w3.heap.size w3 bks[i].m bks[i].rs:=ReadsR.of_own zat (st0.books.maps _ (List.getElem_mem hi));rw [hat] at hmap HD
  obtain ⟨x,hx⟩ : ∃ x,bks[i]=x:=⟨_,rfl⟩
  have HX : Hid (bks[i]=x):=hx;rw [hx] at a0 a1 a2 a3 a4 rm hmap HD;clear hx;obtain ⟨xn,xz,xm,rs,xf,xe⟩:=x;simp only [Bk.pb] at a0 a1 a2 a3 a4 rm hmap HD;obtain ⟨mo,mc,hmf⟩:=rm.form;subst hmf;have HMP : Hid _:=hmap;have hpl:=zac rs;have pB:=st0.c2;have p0:=za0 k0 0;have p3:=za0 k0 3;have i0 : (0 : Int)<=(i : Int):=by omega
  have i1 : (i : Int) < (bks.length : Int):=by omega
  obtain ⟨a,haa⟩:=Int.eq_ofNat_of_zero_le ha16.1;subst haa;clear hmap e0 e1 e2 e3 e4 a0 a1 a3 a4 hat hbk hfp hfb
  go_wp2_with fail
  refine (zco _ rs _ HMP.out rm).mono ?_;rintro e w4 ⟨gp,cp,rfl,ownp,b4⟩;replace k0:=kb0 b4 k0;replace k1:=kb0 b4 k1;have stP:=st0.pool;have W3S:=Nat.le_of_lt (st0.lt);have hws3 : w.heap.size<=w3.heap.size:=by have:=d0.size;omega
  have hbase3 : base<=w3.heap.size:=Nat.le_trans st0.lo W3S;replace st0:=st0.below b4;replace d0:=za1 d0 b4;have hpa : a < (za7 rs).length:=by rw [hpl];omega
  have cA:=(ownp.cellAt a (by omega)).trans (getD_some (za7 rs) a hpa);have a0' : (0 : Int)<=(a : Int):=by omega
  have a1' : (a : Int) < 16:=by omega
  clear b4 rm pB p0 p3 a2;rw [Int.toNat_natCast] at HD;have hpr:=zbg rs HMP.out a (by omega);have HPGS : Hid _:=fun (h : 0<=(za7 rs).getD a 0)=>inv.page i hib ((za7 rs).getD a 0) (by rw [show s.bs[i].rs=rs by have h1:=st.eq;simp only [<- h1,List.getElem_map,HX.out,Bk.pb]];exact (zct _ hpl _).2 ⟨a,by omega,rfl⟩) h
  have hvlt : ∀ q,v1.ownBlock=some q\/v2.ownBlock=some q->q < w3.heap.size:=fun q h=>by
    rcases h with h | h
    · exact (stP.c.lt q h).2
    · exact (stP.p.lt q h).2
  have hlen24:=inv.n1;have hpp:=inv.cells.p;have HL : Hid (((za7 rs).set a (-1)).length=16):=by rw [Hid,List.length_set,hpl]
  have HPR : Hid _:=zbg rs HMP.out
  have HRG : Hid (∀ j,j < 16->-1<=((za7 rs).set a (-1)).getD j 0/\((za7 rs).set a (-1)).getD j 0<=23):=fun j hj=>by
    rw [zd2 _ a j _ hpa]
    split
    · omega
    · exact HPR.out j hj
  obtain ⟨page,hpage⟩ : ∃ page,(za7 rs).getD a 0=page:=⟨_,rfl⟩
  rw [hpage] at cA hpr HPGS HD;have HPE : Hid _:=hpage;clear hpage;have p0:=za0 k0 0;have p3:=za0 k0 3;by_cases hpg : page < 0
  · have HS : Hid _:=zcb (show doOp s ⟨3,nm,ot,(a : Int),va,ep⟩=(s,(0,0)) by rw [HD.out,kind_3,if_neg (by omega)]) (Nat.le_succ_of_le hbase) (HGG.out _ (by omega)) k1 st0 (zdu hbase d0)
    obtain ⟨q0,q1⟩:=cq2 k1;obtain ⟨f0,f1⟩:=oq2 k1;clear k0 k1 st0 d0 st HD
    go_wp2_with fail
    exact bodyPost_ret (v:=.agg #[.int .i64 0,.int .i64 0]) (by simp [results,Tryz.results86,go_sem,za0 HS.out.1]) rfl HS.out.2
  · obtain ⟨kp,hkp⟩:=Int.eq_ofNat_of_zero_le (show 0<=page by omega)
    subst hkp;obtain ⟨hk1,hk2⟩:=HPGS.out (by omega);rw [Int.toNat_natCast] at hk2
    have hk4 : s.cs.getD kp 0<=400:=by
      have h1:=inv.cnt kp (by omega);have h2:=ze5 s.bs (kp : Int);have h3:=inv.few
      omega
    have HDD : Hid (doOp s ⟨3,nm,ot,(a : Int),va,ep⟩=(⟨s.cs.set kp (s.cs.getD kp 0 - 1),if s.cs.getD kp 0=1 then s.ps.set kp 0 else s.ps,s.bs.set i ⟨xn,xz,mapOf ((za7 rs).set a (-1)),xf,xe⟩⟩,(0,0))):=by rw [Hid,HD.out,kind_3,if_pos (by omega),zl7 rfl,Int.toNat_natCast]
    go_wp2_with fail
    clear p0 p3 cA;refine (zo1 b off base kp v1 v2 s.cs s.ps _ st0.c0 st0.c1 st0.n1 st0.n2 st0.pool (by omega) (by omega) (by omega) ⟨hk2,hk4⟩).mono ?_;rintro e w5 ⟨rfl,own5,only5⟩;have st5:=st0.pooled own5 only5;have ownp5:=zci ownp only5 hvlt;have onW : Only (ShW b v1 v2 (.slice (some ⟨g,0,none⟩) bks.length cap)) w4 w5:=only5.mono (fun i hi=>hi.elim (fun q=>.inr (.inl q)) (fun q=>.inr (.inr (.inl q))));replace k0:=st0.keeps onW k0 HTY.out.o (by decide) (by decide);replace k1:=st0.keeps onW k1 HTY.out.rp (by decide) (by decide);have d5:=(zdu hbase d0).trans (st0.only_below onW);clear st0 own5 only5 ownp onW d0 HD stP;have hB:=(ownp5.lt gp rfl).1;have hbg : base<=gp:=Nat.le_trans hbase3 hB;have c0:=ownp5.cellAt a (by omega);have c0f:=ownp5.frozenAt a;have c0s:=c0.trans (getD_some (za7 rs) a hpa);have hst:=(ownp5.stored a (.int .i64 (-1))).1;rw [<- List.map_set] at hst;have st6:=st5.beside (j:=a) ownp5 hvlt (.int .i64 (-1));have n0 : w.heap.size ≠ gp:=fun e=>zaa ownp5 k0 (by decide) (by rw [e];rfl)
    have n1 : w.heap.size+1 ≠ gp:=fun e=>zaa ownp5 k1 (by decide) (by rw [e];rfl)
    have m0:=(Below.heap_setCell w5 ⟨gp,a,none⟩ (.int .i64 (-1)) w.heap.size n0).trans k0;have m1:=(Below.heap_setCell w5 ⟨gp,a,none⟩ (.int .i64 (-1)) (w.heap.size+1) n1).trans k1;have d6 : Fr G base w (w5.setCell ⟨gp,a,none⟩ (.int .i64 (-1))):=d5.set ⟨gp,a,none⟩ hbg (show ¬ G gp from HGG.out gp (by omega)) _;have rd:=Reads.of_own hst;have HRD : Hid _:=rd;have HST6 : Hid _:=st6;have HM6 : Hid _:=And.intro m0 (And.intro m1 d6);have p3:=za0 k0 3;have hgg : ¬ gp=g:=fun e=>zbh st5.books.row ownp5 (by decide) gp rfl (by rw [e];rfl)
    have hgg' : ¬ g=gp:=fun e=>hgg e.symm
    generalize (za7 rs).getD a 0=yy at c0s;clear rd st6 m0 m1 d6 hst c0 k0 k1
    go_wp2_with fail
    refine (zha _ ((za7 rs).set a (-1)) _ HL.out HRG.out HRD.out).mono ?_;rintro e w7 ⟨v7,rfl,own7,hn7,b7⟩;have st7:=HST6.out.below b7;have k1:=(b7.block _ (za2 HM6.out.2.1)).trans HM6.out.2.1;have hb6 : base<=(w5.setCell ⟨gp,a,none⟩ (.int .i64 (-1))).heap.size:=HST6.out.hbase;have d7:=HM6.out.2.2.trans (zdu hb6 b7);obtain ⟨⟨-,-,c2,-,-⟩,-,-,e2,-,-⟩:=zaz st7.books.row i hi;rw [HX.out] at c2;simp only at c2;obtain ⟨o7,c7,hv7⟩:=za4 own7;subst hv7;obtain ⟨st8,b8⟩:=st7.put i 2 hi (by decide) ⟨xn,xz,.slice o7 (mapOf ((za7 rs).set a (-1))).length c7,mapOf ((za7 rs).set a (-1)),xf,xe⟩ (.slice o7 (mapOf ((za7 rs).set a (-1))).length c7) (by rw [HX.out];rfl) (zah own7 hb6);have hgn : ¬ g=w.heap.size+1:=fun e=>zaa st7.books.row k1 (by decide) (by rw [<- e];rfl)
    have hgn' : ¬ w.heap.size+1=g:=fun e=>hgn e.symm
    have k8:=(Below.heap_setCell w7 ⟨g,i * 5+2,none⟩ (.slice o7 (mapOf ((za7 rs).set a (-1))).length c7) (w.heap.size+1) hgn').trans k1;have HS : Hid _:=zcb (HDD.out) (Nat.le_succ_of_le hbase) (HGG.out _ (by omega)) k8 st8 (d7.trans b8);obtain ⟨q0,q1⟩:=cq2 k1;obtain ⟨f0,f1⟩:=oq2 k1;clear k1 k8 st7 st8 b8 d7 own7 hn7 b7 HST6 HM6 HRD
    go_wp2_with fail
    exact bodyPost_ret (v:=.agg #[.int .i64 0,.int .i64 0]) (by simp [results,Tryz.results86,go_sem,za0 HS.out.1]) rfl HS.out.2
end Go.Proofs.YtfkkapdofjhgpaaGreatDoor
