import Derived.Deep.RegionHeld3
import Derived.Test.YtfkkapdofjhgpaaGreatDoorM08
import Derived.Test.YtfkkapdofjhgpaaGreatDoorM12
import Derived.Test.YtfkkapdofjhgpaaGreatDoorM13
set_option maxHeartbeats 12800000
namespace Go.Proofs.YtfkkapdofjhgpaaGreatDoor
open Go.RowKit
set_option linter.unusedVariables false
set_option maxRecDepth 100000
theorem zea {W : World} {base b n : Nat} {v : Value} {xs : List Value} {x0 x1 x2 x3 x4 : Value} (h : W.ownsRow base 172 3 v n xs) (kz : W.heap[b]? = some (.cells #[x0,x1,x2,x3,x4] 117 (0,0))) (y0 y1 y2 y3 y4 : Value) : (((((W.setCell ⟨b,0,none⟩ y0).setCell ⟨b,1,none⟩ y1).setCell ⟨b,2,none⟩ y2).setCell ⟨b,3,none⟩ y3).setCell ⟨b,4,none⟩ y4).ownsRow base 172 3 v n xs:=by
  have k1:=zab kz 0 y0;have k2:=zab k1 1 y1;have k3:=zab k2 2 y2;have k4:=zab k3 3 y3;exact zem (zem (zem (zem (zem h kz (by decide) 0 y0) k1 (by decide) 1 y1) k2 (by decide) 2 y2) k3 (by decide) 3 y3) k4 (by decide) 4 y4
theorem zng {wx X : World} {n m : Nat} {o0 o1 o2 o3 o4 o5 x0 x1 x2 x3 x4 : Value} {T U : TypeId} (bX : Below wx.heap.size wx X) (k0 : wx.heap[n]? = some (.cells #[o0,o1,o2,o3,o4,o5] T (0,0))) (k7 : wx.heap[m]? = some (.cells #[x0,x1,x2,x3,x4] U (0,0))) :
    X.cell? ⟨n,0,none⟩=some o0/\X.cell? ⟨n,2,none⟩=some o2/\X.cell? ⟨m,0,none⟩=some x0/\X.cell? ⟨m,1,none⟩=some x1/\X.cell? ⟨m,2,none⟩=some x2/\X.cell? ⟨m,3,none⟩=some x3/\X.cell? ⟨m,4,none⟩=some x4:=by
  have h1:=kb0 bX k0;have h2:=kb0 bX k7;exact ⟨za0 h1 0,za0 h1 2,za0 h2 0,za0 h2 1,za0 h2 2,za0 h2 3,za0 h2 4⟩
theorem zxa (G : Nat->Prop) (C : Array Value) (T : TypeId) (off base b : Nat) (v1 v2 vb : Value) (bks : List Bk) (s : Sf) (nm ot : ByteArray) (at_ va ep : Int) (w : World) (hn : nm.size<=maxLen) (ho : ot.size<=maxLen) (inv : ShInv s) (st : ShSg G C T off base b w v1 v2 vb bks s) (hok : opOk ⟨4,nm,ot,at_,va,ep⟩=true) (href : za5 s.bs ⟨4,nm,ot,at_,va,ep⟩=0) :
    Calls Tryz.prog 86 #[.pointer (some ⟨b,off,none⟩),.agg #[.int .i64 4,.string nm,.string ot,.int .i64 at_,.int .i64 va,.int .i64 ep]] w (DoPostG G C T off base b v1 v2 s ⟨4,nm,ot,at_,va,ep⟩ w):=by
  obtain ⟨i,hi,hib,hfp,hfb,hat,hbk⟩:=zgu (o:=⟨4,nm,ot,at_,va,ep⟩) st href (show (4 : Int) ≠ 1 by decide);have ha16:=zjq inv hok href (show (4 : Int) ≠ 1 by decide);simp only at hfp hfb hbk ha16;have hmap:=(zaw (inv.oks _ (List.getElem_mem hib))).2.2.2.1
  have HD : Hid (doOp s ⟨4,nm,ot,at_,va,ep⟩=(⟨shareAll s.cs (pagesOf s.bs[i].rs),s.ps,insertP s.bs ⟨ot,s.bs[i].sz,s.bs[i].rs,true,0⟩⟩,(0,0))):=by
    rw [Hid,doOp,if_neg (by rw [hok];decide),if_neg (by rw [href];decide),if_neg (show ¬ (4 : Int)=1 by decide),if_neg (show ¬ (4 : Int)=6 by decide),if_pos (show kOther 4=true from rfl),hbk]
    rfl
  obtain ⟨ob,cap,hvf⟩:=za4 st.books.row;subst hvf;have hbase : base<=w.heap.size:=st.hbase;have HGG : Hid (∀ k,w.heap.size<=k->¬ G k):=fun k hk q=>by have:=st.gl k q;omega
  have HTY : Hid (HoldsSh T):=st.hT;have hfew : bks.length<=6:=by rw [st.len];exact inv.few
  obtain ⟨W0,hW0,k0,k1,d0,z0⟩:=zc7 w #[.int .i64 4,.string nm,.string ot,.int .i64 at_,.int .i64 va,.int .i64 ep] #[.int .i64 0,.int .i64 0] 37 43;have HW0 : Hid (W0 = _):=hW0;have st0:=st.below d0;clear hW0 z0
  go_enter Tryz.func86,Tryz.ntmps86
  go_wp2_with fail
  rw [<- HW0.out];clear HW0;refine (zbl 4 nm ot at_ va ep _ hn ho).mono ?_;rintro e w1 ⟨rfl,b1⟩;rw [hok];replace k0:=kb0 b1 k0;replace k1:=kb0 b1 k1;replace st0:=st0.below b1;replace d0:=za1 d0 b1;clear b1;have hne:=BelowOf.any w1;have rb : ReadsR 5 bookC w1.heap.size w1 (.slice ob bks.length cap) bks:=ReadsR.of_own zae st0.books.row;have hfm:=st0.forms
  have H1 : ∀ q : BelowOf w1,Calls Tryz.prog 139 #[.slice ob bks.length cap,.agg #[.int .i64 4,.string nm,.string ot,.int .i64 at_,.int .i64 va,.int .i64 ep]] q.w' fun e w'=>e = .returned (.int .i64 0)/\Below q.w'.heap.size q.w' w':=fun q=>by
    have h:=zbm (.slice ob bks.length cap) bks 4 nm ot at_ va ep q.w' (by omega) (rb.of (Nat.le_refl _) q) hfm;rw [st.eq,href] at h;exact h
  have c0:=BelowOf.cell (v:=.int .i64 4) (za0 k0 0) (za2 k0);have c1:=BelowOf.cell (v:=.string nm) (za0 k0 1) (za2 k0);have c2:=BelowOf.cell (v:=.string ot) (za0 k0 2) (za2 k0);have c3:=BelowOf.cell (v:=.int .i64 at_) (za0 k0 3) (za2 k0);have c4:=BelowOf.cell (v:=.int .i64 va) (za0 k0 4) (za2 k0);have c5:=BelowOf.cell (v:=.int .i64 ep) (za0 k0 5) (za2 k0);have cB:=BelowOf.cell (v:=.slice ob bks.length cap) (st0.c2) (st0.lt)
  go_wp2_with fail
  refine zad (by kernel_rfl) (by kernel_rfl) ?_
  repeat (go_big_quiet_step ((first | (go_at_call 139;with_reducible exact zb1 (H1 _)) | rfl)))
  refine wpQuiet_nil ?_;intro w2 hw2;obtain ⟨⟨wx,cx⟩,hwx⟩:=hw2;have b2 : Below w1.heap.size w1 w2:=by rw [hwx];exact cx
  clear hwx cx wx hne c0 c1 c2 c3 c4 c5 cB H1 rb;replace k0:=kb0 b2 k0;replace k1:=kb0 b2 k1;replace st0:=st0.below b2;replace d0:=za1 d0 b2;clear b2;have hne:=BelowOf.any w2;have rb : ReadsR 5 bookC w2.heap.size w2 (.slice ob bks.length cap) bks:=ReadsR.of_own zae st0.books.row
  have H2 : ∀ q : BelowOf w2,Calls Tryz.prog 140 #[.slice ob bks.length cap,.string nm] q.w' fun e w'=>e = .returned (.int .i64 i)/\w'=q.w':=fun q=>by
    have h:=zap (.slice ob bks.length cap) bks nm q.w' (rb.of (Nat.le_refl _) q);rw [hfb] at h;exact h
  have c1:=BelowOf.cell (v:=.string nm) (za0 k0 1) (za2 k0);have cB:=BelowOf.cell (v:=.slice ob bks.length cap) (st0.c2) (st0.lt)
  go_wp2_with fail
  refine zad (by kernel_rfl) (by kernel_rfl) ?_
  repeat (go_big_quiet_step ((first | (go_at_call 140;with_reducible exact zbw (H2 _)) | rfl)))
  refine wpQuiet_nil ?_;intro w3 hw3;obtain ⟨⟨wx,cx⟩,hwx⟩:=hw3;have b3 : Below w2.heap.size w2 w3:=by rw [hwx];exact cx
  clear hwx cx wx hne c1 cB H2 rb;replace k0:=kb0 b3 k0;replace k1:=kb0 b3 k1;replace st0:=st0.below b3;replace d0:=za1 d0 b3;clear b3;obtain ⟨g,hob⟩:=zdn st0.books.row (by omega);subst hob;obtain ⟨j0,ji,jz0,jz1,jz2⟩:=info_parts Tryz.infoRun;obtain ⟨⟨a0,a1,a2,a3,a4⟩,-⟩:=zaz st0.books.row i hi;have hown:=st0.books.maps _ (List.getElem_mem hi);rw [hat] at hmap HD
  obtain ⟨x,hx⟩ : ∃ x,bks[i]=x:=⟨_,rfl⟩
  have HX : Hid (bks[i]=x):=hx;rw [hx] at a0 a1 a2 a3 a4 hown hmap HD;clear hx;obtain ⟨xn,xz,xm,rs,xf,xe⟩:=x;simp only [Bk.pb] at a0 a1 a2 a3 a4 hown hmap HD;obtain ⟨mo,mc,hmf⟩:=za4 hown;subst hmf;have hfew16 : rs.length<=16:=by rw [mapOk,Bool.and_eq_true,decide_eq_true_iff] at hmap;exact hmap.2
  have HMP : Hid _:=hmap;have pB:=st0.c2;have p0:=za0 k0 0;have i0 : (0 : Int)<=(i : Int):=by omega
  have i1 : (i : Int) < (bks.length : Int):=by omega
  obtain ⟨w4,hw4,k7,b4,z4⟩:=zb4 w3 #[.string xn,.int .i64 xz,.slice mo rs.length mc,.bool xf,.int .i64 xe] 117;have HW4 : Hid (w4 = _):=hw4
  go_upto_region 18 with fail
  rw [<- HW4.out];clear HW4 hw4 pB p0 a0 a1 a2 a3 a4 z4;replace k0:=kb0 b4 k0;replace k1:=kb0 b4 k1;have st4:=st0.below b4;have own4:=za9 hown b4;replace d0:=za1 d0 b4;clear b4 hown st0;have rm4 : ReadsR 3 zak w4.heap.size w4 (.slice mo rs.length mc) rs:=ReadsR.of_own zat own4
  go_cut [8] (fun v wx=>∃ (n8 : Nat) (o9 : Option Addr) (c9 : Nat),v = .pointer (some ⟨n8,0,none⟩)/\wx.heap[n8]? = some (.cells #[.string ot,.int .i64 xz,.slice o9 rs.length c9,.bool true,.int .i64 0] 117 (0,0))/\wx.ownsRow w4.heap.size 172 3 (.slice o9 rs.length c9) rs.length (rs.flatMap zak)/\Below w4.heap.size w4 wx)
  case first =>
    have HLEN : Hid ((rs.flatMap zak).length=rs.length * 3):=zbb zat rs;have HSRC : Hid (∀ X : World,Below w4.heap.size w4 X->∀ j u,(rs.flatMap zak)[j]? = some u->∃ g' off',mo=some ⟨g',off',none⟩/\X.cell? ⟨g',off'+j,none⟩=some u):=fun X bX=>zd4 zat (by decide) (rm4.below bX)
    have HM : Hid (0+rs.length<=maxLen):=by rw [Hid];unfold maxLen;omega
    have HBY : Hid ((0+rs.length) * 24<=140737488355328):=by rw [Hid];omega
    have HZ1 : Hid (((w4.alloc (.cells #[] 172)).alloc (.cells #[.string ⟨#[]⟩,.int .i64 0,.slice none 0 0,.bool false,.int .i64 0] 117)).heap[w4.heap.size+1]? = some (.cells #[.string ⟨#[]⟩,.int .i64 0,.slice none 0 0,.bool false,.int .i64 0] 117 (0,0))):=by
      obtain ⟨W,hW,-,h,-⟩:=zc7 w4 #[] #[.string ⟨#[]⟩,.int .i64 0,.slice none 0 0,.bool false,.int .i64 0] 172 117;rw [hW] at h;exact h
    have HZ2 : Hid (((w4.alloc (.cells #[.string ⟨#[]⟩,.int .i64 0,.slice none 0 0,.bool false,.int .i64 0] 117)).alloc (.cells #[] 172)).heap[w4.heap.size]? = some (.cells #[.string ⟨#[]⟩,.int .i64 0,.slice none 0 0,.bool false,.int .i64 0] 117 (0,0))):=by
      obtain ⟨W,hW,h,-⟩:=zc7 w4 #[.string ⟨#[]⟩,.int .i64 0,.slice none 0 0,.bool false,.int .i64 0] #[] 117 172;rw [hW] at h;exact h
    have HKeep : ∀ W',Below w4.heap.size w4 W'->(Below w4.heap.size w4 W'/\W'.cell? ⟨w.heap.size,0,none⟩=some (.int .i64 4)/\W'.cell? ⟨w.heap.size,2,none⟩=some (.string ot)/\W'.cell? ⟨w3.heap.size,1,none⟩=some (.int .i64 xz)/\W'.cell? ⟨w3.heap.size,2,none⟩=some (.slice mo rs.length mc)):=fun W' hb=>by
      obtain ⟨y0,y1,y2,y3,y4,y5,y6⟩:=zng (X:=W') hb k0 k7;exact ⟨hb,y0,y1,y3,y4⟩
    go_wp2_with fail
    go_region_held3 (fun w'=>Below w4.heap.size w4 w'/\w'.cell? ⟨w.heap.size,0,none⟩=some (.int .i64 4)/\w'.cell? ⟨w.heap.size,2,none⟩=some (.string ot)/\w'.cell? ⟨w3.heap.size,1,none⟩=some (.int .i64 xz)/\w'.cell? ⟨w3.heap.size,2,none⟩=some (.slice mo rs.length mc))
      ((refine HKeep _ ?_;repeat (first | exact Below.refl _ _ | exact ba | refine zar ?_ | refine za3 ?_ | refine zb8 ?_ (by first | exact Nat.le_refl _ | (have:=ba.size;simp at this ⊢;omega) | (simp <;> omega)) _)))
      (first
    | (refine zan rfl (.tmp 87) (.tmp 89) 115 rfl w4.heap.size 172 j0 (.agg #[.int .i64 0,.int .i64 0,.int .i64 0]) 3 24 Tryz.underlying115 ji jz0 jz1 jz2 rfl (by decide) (.slice (some ⟨w4.heap.size,0,none⟩) 0 0) 0 [] ?e1 ?own mo rs.length mc (rs.flatMap zak) ?e2 HLEN.out ?hn (zey rs) HM.out HBY.out ?hbase ?_
       case e1=>first | rfl | simp [Act.eval]
       case e2=>first | rfl | simp [Act.eval]
       case own=>exact zd3 w4
       case hn=>exact HSRC.out _ (za3 (Below.refl _ _)).drew
       case hbase=>simp <;> omega
       intro va' wa owna growa nila;obtain ⟨oa,ca,hva'⟩:=za4 owna;subst hva';have ba : Below w4.heap.size w4 wa:=((za3 (Below.refl _ _)).drew).grown growa (by simp <;> omega) (fun z hz=>by simp [Value.ownBlock] at hz;omega)
       skip)
    | (refine zan rfl (.tmp 87) (.tmp 89) 115 rfl w4.heap.size 172 j0 (.agg #[.int .i64 0,.int .i64 0,.int .i64 0]) 3 24 Tryz.underlying115 ji jz0 jz1 jz2 rfl (by decide) (.slice (some ⟨w4.heap.size,0,none⟩) 0 0) 0 [] ?e1 ?own mo rs.length mc (rs.flatMap zak) ?e2 HLEN.out ?hn (zey rs) HM.out HBY.out ?hbase ?_
       case e1=>first | rfl | simp [Act.eval]
       case e2=>first | rfl | simp [Act.eval]
       case own=>exact (zd3 w4).alloc (.cells #[.string ⟨#[]⟩,.int .i64 0,.slice none 0 0,.bool false,.int .i64 0] 117)
       case hn=>exact HSRC.out _ (za3 (za3 (Below.refl _ _))).drew
       case hbase=>simp <;> omega
       intro va' wa owna growa nila;obtain ⟨oa,ca,hva'⟩:=za4 owna;subst hva';have ba : Below w4.heap.size w4 wa:=((za3 (za3 (Below.refl _ _))).drew).grown growa (by simp <;> omega) (fun z hz=>by simp [Value.ownBlock] at hz;omega)
       have kz:=(growa.block (w4.heap.size+1) (by simp <;> omega) (by simp [Value.ownBlock])).trans HZ1.out;have zc0:=za0 kz 0;have zf0:=za8 kz 0;have zc1:=za0 kz 1;have zf1:=za8 kz 1;have zc2:=za0 kz 2;have zf2:=za8 kz 2;have zc3:=za0 kz 3;have zf3:=za8 kz 3;have zc4:=za0 kz 4;have zf4:=za8 kz 4)
    | (refine zan rfl (.tmp 87) (.tmp 89) 115 rfl w4.heap.size 172 j0 (.agg #[.int .i64 0,.int .i64 0,.int .i64 0]) 3 24 Tryz.underlying115 ji jz0 jz1 jz2 rfl (by decide) (.slice (some ⟨w4.heap.size+1,0,none⟩) 0 0) 0 [] ?e1 ?own mo rs.length mc (rs.flatMap zak) ?e2 HLEN.out ?hn (zey rs) HM.out HBY.out ?hbase ?_
       case e1=>first | rfl | simp [Act.eval]
       case e2=>first | rfl | simp [Act.eval]
       case own=>exact (by have h:=zd3 (w4.alloc (.cells #[.string ⟨#[]⟩,.int .i64 0,.slice none 0 0,.bool false,.int .i64 0] 117));rw [show (w4.alloc (.cells #[.string ⟨#[]⟩,.int .i64 0,.slice none 0 0,.bool false,.int .i64 0] 117)).heap.size=w4.heap.size+1 by simp] at h;exact zah h (by omega))
       case hn=>exact HSRC.out _ (za3 (za3 (Below.refl _ _))).drew
       case hbase=>simp <;> omega
       intro va' wa owna growa nila;obtain ⟨oa,ca,hva'⟩:=za4 owna;subst hva';have ba : Below w4.heap.size w4 wa:=((za3 (za3 (Below.refl _ _))).drew).grown growa (by simp <;> omega) (fun z hz=>by simp [Value.ownBlock] at hz;omega)
       have kz:=(growa.block w4.heap.size (by simp <;> omega) (by simp [Value.ownBlock])).trans HZ2.out;have zc0:=za0 kz 0;have zf0:=za8 kz 0;have zc1:=za0 kz 1;have zf1:=za8 kz 1;have zc2:=za0 kz 2;have zf2:=za8 kz 2;have zc3:=za0 kz 3;have zf3:=za8 kz 3;have zc4:=za0 kz 4;have zf4:=za8 kz 4))
    · rename_i hh
      rw [Nat.zero_add,List.nil_append] at owna;have HF : Hid _:=And.intro (zo2 wa #[.string ot,.int .i64 xz,.slice oa rs.length ca,.bool true,.int .i64 0] 117) (And.intro (owna.alloc (.cells #[.string ot,.int .i64 xz,.slice oa rs.length ca,.bool true,.int .i64 0] 117)) hh.1);clear growa nila owna
      go_wp2_with fail
      go_meet
      exact ⟨wa.heap.size,oa,ca,rfl,HF.out⟩
    · rename_i hh
      rw [Nat.zero_add,List.nil_append] at owna;have HF : Hid _:=And.intro (zev kz (.string ot) (.int .i64 xz) (.slice oa rs.length ca) (.bool true) (.int .i64 0)) (And.intro (zea owna kz (.string ot) (.int .i64 xz) (.slice oa rs.length ca) (.bool true) (.int .i64 0)) hh.1);clear growa nila owna kz
      go_wp2_with fail
      go_meet
      exact ⟨w4.heap.size+1,oa,ca,rfl,HF.out⟩
    · rename_i hh
      rw [Nat.zero_add,List.nil_append] at owna;have HF : Hid _:=And.intro (zev kz (.string ot) (.int .i64 xz) (.slice oa rs.length ca) (.bool true) (.int .i64 0)) (And.intro (zea owna kz (.string ot) (.int .i64 xz) (.slice oa rs.length ca) (.bool true) (.int .i64 0)) hh.1);clear growa nila owna kz
      go_wp2_with fail
      go_meet
      exact ⟨w4.heap.size,oa,ca,rfl,HF.out⟩
  case rest =>
    obtain ⟨n8,o9,c9,rfl,k8,own9,b5⟩:=hcut;generalize wc=w5 at *;replace k0:=kb0 b5 k0;replace k1:=kb0 b5 k1;replace k7:=kb0 b5 k7;have st5:=st4.below b5;have d5:=za1 d0 b5;have rm5:=(rm4.below b5).mono b5.size;have hb4 : base<=w4.heap.size:=st4.hbase;have own9b:=zah own9 hb4;have p72:=za0 k7 2;clear b5 st4 d0 rm4 own4 own9
    go_wp2_with fail
    clear p72;refine (zow _ rs _ HMP.out rm5).mono ?_;rintro e w6 ⟨vp,rfl,ownp,hnp,b6⟩;have hpe : pagesOf rs=(za7 rs).filter (fun p=>decide (0<=p)):=by rw [pagesOf,if_pos HMP.out]
    rw [<- hpe] at ownp
    obtain ⟨l,hl⟩ : ∃ l,pagesOf rs=l:=⟨_,rfl⟩
    rw [hl] at ownp;obtain ⟨op,cp,hvp⟩:=za4 ownp;subst hvp;have hrs : s.bs[i].rs=rs:=by have h1:=st.eq;simp only [<- h1,List.getElem_map,HX.out,Bk.pb]
    have HSN : Hid _:=fun q=>zl6 inv i hib q
    rw [hrs] at HSN
    have hvlt : ∀ q,v1.ownBlock=some q\/v2.ownBlock=some q->q < w5.heap.size:=fun q h=>by
      rcases h with h | h
      · exact (st5.pool.c.lt q h).2
      · exact (st5.pool.p.lt q h).2
    replace k1:=kb0 b6 k1;replace k8:=kb0 b6 k8;have st6:=st5.below b6;have d6:=za1 d5 b6;have own6:=za9 own9b b6;have hn1:=inv.n1;have hpp:=inv.cells.p;obtain ⟨g1,c1,g2,c2,hv1,hv2,hne12⟩:=zfs st6.pool (by omega) hpp;subst hv1 hv2;have hl16 : l.length<=16:=by rw [<- hl];exact zfb rs
    rw [hl] at HSN HD;clear b6 st5 d5 rm5 own9b hpe hnp k0 k7 hl
    go_wp2_with fail
    go_loopw [10] (fun k wr=>∃ q : Nat,q<=l.length/\k = .int .i64 q/\OwnP base wr (.slice (some ⟨g1,0,none⟩) s.cs.length c1) (.slice (some ⟨g2,0,none⟩) s.ps.length c2) (shareAll s.cs (l.take q)) s.ps/\Only (fun z=>(Value.slice (some ⟨g1,0,none⟩) s.cs.length c1).ownBlock=some z\/(Value.slice (some ⟨g2,0,none⟩) s.ps.length c2).ownBlock=some z) w6 wr) (fun k _=>l.length - (intOf k).toNat)
    case atStart=>exact ⟨0,Nat.zero_le _,rfl,by rw [List.take_zero];exact st6.pool,Only.refl _ _⟩
    case round =>
      obtain ⟨q,hq,rfl,ownq,onq⟩:=hrel;have stq:=st6.pooled ownq onq;have ownpq:=zci ownp onq hvlt;by_cases hlt : q < l.length
      · obtain ⟨hsl,hsq⟩:=HSN.out q
        obtain ⟨hp0,hp1,hp2,hp3⟩:=hsq hlt;have hstep:=zhl s.cs l q hlt;obtain ⟨gp,hgp⟩:=zi0 ownpq (by omega);subst hgp;have cQ0:=ownpq.cellAt q (show q < l.length * 1 by omega);have cQ : wr.drew.cell? ⟨gp,q,none⟩=some (.int .i64 l[q]):=cQ0.trans (by rw [List.getElem?_map,List.getElem?_eq_getElem hlt];rfl);obtain ⟨kp,hkp⟩:=Int.eq_ofNat_of_zero_le hp0;rw [hkp] at cQ hstep hp1 hp2 hp3;rw [Int.toNat_natCast] at hstep hp1 hp2 hp3;have HST : Hid _:=hstep
        obtain ⟨cs',hcs'⟩ : ∃ cs',shareAll s.cs (l.take q)=cs':=⟨_,rfl⟩
        rw [hcs'] at ownq hsl hp2 hp3 HST;have ownN:=ownq;rw [<- hsl] at ownN;have cC0:=ownN.c.cellAt kp (show kp < cs'.length * 1 by omega);have cC : wr.drew.cell? ⟨g1,kp,none⟩=some (.int .i64 (cs'.getD kp 0)):=cC0.trans (getD_some cs' kp (by omega));have fC : wr.drew.frozen? ⟨g1,kp,none⟩=false:=ownN.c.frozenAt kp;have b0 : wr.drew.cell? ⟨b,off,none⟩=some (.slice (some ⟨g1,0,none⟩) s.cs.length c1):=stq.c0;have ownN2:=ownN.set1 kp (cs'.getD kp 0+1);rw [hsl] at ownN2;have onN:=onq.setCell ⟨g1,kp,none⟩ (.inl rfl) (.int .i64 (cs'.getD kp 0+1));have HR : Hid _:=And.intro (ownN2.below ((Below.refl _ _).drew)) (onN.below ((Below.refl _ _).drew));have hw : IntKind.i64.wrap (cs'.getD kp 0+1)=cs'.getD kp 0+1:=by rw [IntKind.wrap_i64];omega
        have j0' : (0 : Int)<=(q : Int):=by omega
        have j1' : (q : Int) < (l.length : Int):=by omega
        have j2' : (0 : Int)<=(kp : Int):=by omega
        have j3' : (kp : Int) < (s.cs.length : Int):=by omega
        clear ownq ownN ownN2 onN onq stq ownpq hstep hcs' hsq hkp cC0 cQ0;generalize cs'.getD kp 0=cc at *
        go_wp2_with fail
        go_region
        go_wp2_with fail
        go_roundw
        case rel=>exact ⟨q+1,by omega,by go_num,by rw [HST.out];exact HR.out⟩
        case measure=>simp [intOf];omega
      · have htk : l.take q=l:=List.take_of_length_le (by omega)
        rw [htk] at stq
        have own9q : wr.ownsRow base 172 3 (.slice o9 rs.length c9) rs.length (rs.flatMap zak):=zbd own6 onq (fun g' hg' hS=>by
          rcases hS with h | h
          · exact zbh own6 st6.pool.c (by decide) g' h hg'
          · exact zbh own6 st6.pool.p (by decide) g' h hg')
        have onW : Only (ShW b (.slice (some ⟨g1,0,none⟩) s.cs.length c1) (.slice (some ⟨g2,0,none⟩) s.ps.length c2) (.slice (some ⟨g,0,none⟩) bks.length cap)) w6 wr:=onq.mono (fun z hz=>hz.elim (fun q=>.inr (.inl q)) (fun q=>.inr (.inr (.inl q))));have k1q:=st6.keeps onW k1 HTY.out.rp (by decide) (by decide)
        have k8q:=(onq.block n8 (za2 k8) (fun hS=>by
          rcases hS with h | h
          · exact zaa st6.pool.c k8 (by decide) h
          · exact zaa st6.pool.p k8 (by decide) h)).trans k8
        have dq:=(zdu hbase d6).trans (st6.only_below onW);obtain ⟨x0,x1,x2,x3,x4⟩:=cq5 k8q;clear ownq onq ownpq st6 onW k8 k1 d6 htk own6 ownp
        go_wp2_with fail
        clear x0 x1 x2 x3 x4;refine (zfk G C T off base b _ _ _ bks ⟨shareAll s.cs l,s.ps,s.bs⟩ ⟨ot,xz,.slice o9 rs.length c9,rs,true,0⟩ _ stq hfew own9q).mono ?_;rintro e w8 ⟨vb',bks',rfl,st8,on8⟩;have k1w:=stq.keeps_b on8 k1q HTY.out.rp;have hb8 : Fr G base wr w8:=stq.box_only on8;have HS : Hid _:=zcb HD.out (Nat.le_succ_of_le hbase) (HGG.out _ (by omega)) k1w st8 (dq.trans hb8);obtain ⟨q0,q1⟩:=cq2 k1w;obtain ⟨f0,f1⟩:=oq2 k1w;clear k1w k1q k8q stq st8 hb8 dq st HD on8 own9q
        go_wp2_with fail
        exact bodyPost_ret (v:=.agg #[.int .i64 0,.int .i64 0]) (by simp [results,Tryz.results86,go_sem,za0 HS.out.1]) rfl HS.out.2
theorem zxb (G : Nat->Prop) (C : Array Value) (T : TypeId) (off base b : Nat) (v1 v2 vb : Value) (bks : List Bk) (s : Sf) (nm ot : ByteArray) (at_ va ep : Int) (w : World) (hn : nm.size<=maxLen) (ho : ot.size<=maxLen) (inv : ShInv s) (st : ShSg G C T off base b w v1 v2 vb bks s) (hok : opOk ⟨5,nm,ot,at_,va,ep⟩=true) (href : za5 s.bs ⟨5,nm,ot,at_,va,ep⟩=0) :
    Calls Tryz.prog 86 #[.pointer (some ⟨b,off,none⟩),.agg #[.int .i64 5,.string nm,.string ot,.int .i64 at_,.int .i64 va,.int .i64 ep]] w (DoPostG G C T off base b v1 v2 s ⟨5,nm,ot,at_,va,ep⟩ w):=by
  obtain ⟨i,hi,hib,hfp,hfb,hat,hbk⟩:=zgu (o:=⟨5,nm,ot,at_,va,ep⟩) st href (show (5 : Int) ≠ 1 by decide);have ha16:=zjq inv hok href (show (5 : Int) ≠ 1 by decide);simp only at hfp hfb hbk ha16;have hmap:=(zaw (inv.oks _ (List.getElem_mem hib))).2.2.2.1
  have HD : Hid (doOp s ⟨5,nm,ot,at_,va,ep⟩=(⟨shareAll s.cs (pagesOf s.bs[i].rs),s.ps,insertP s.bs ⟨ot,s.bs[i].sz,s.bs[i].rs,false,0⟩⟩,(0,0))):=by
    rw [Hid,doOp,if_neg (by rw [hok];decide),if_neg (by rw [href];decide),if_neg (show ¬ (5 : Int)=1 by decide),if_neg (show ¬ (5 : Int)=6 by decide),if_pos (show kOther 5=true from rfl),hbk]
    rfl
  obtain ⟨ob,cap,hvf⟩:=za4 st.books.row;subst hvf;have hbase : base<=w.heap.size:=st.hbase;have HGG : Hid (∀ k,w.heap.size<=k->¬ G k):=fun k hk q=>by have:=st.gl k q;omega
  have HTY : Hid (HoldsSh T):=st.hT;have hfew : bks.length<=6:=by rw [st.len];exact inv.few
  obtain ⟨W0,hW0,k0,k1,d0,z0⟩:=zc7 w #[.int .i64 5,.string nm,.string ot,.int .i64 at_,.int .i64 va,.int .i64 ep] #[.int .i64 0,.int .i64 0] 37 43;have HW0 : Hid (W0 = _):=hW0;have st0:=st.below d0;clear hW0 z0
  go_enter Tryz.func86,Tryz.ntmps86
  go_wp2_with fail
  rw [<- HW0.out];clear HW0;refine (zbl 5 nm ot at_ va ep _ hn ho).mono ?_;rintro e w1 ⟨rfl,b1⟩;rw [hok];replace k0:=kb0 b1 k0;replace k1:=kb0 b1 k1;replace st0:=st0.below b1;replace d0:=za1 d0 b1;clear b1;have hne:=BelowOf.any w1;have rb : ReadsR 5 bookC w1.heap.size w1 (.slice ob bks.length cap) bks:=ReadsR.of_own zae st0.books.row;have hfm:=st0.forms
  have H1 : ∀ q : BelowOf w1,Calls Tryz.prog 139 #[.slice ob bks.length cap,.agg #[.int .i64 5,.string nm,.string ot,.int .i64 at_,.int .i64 va,.int .i64 ep]] q.w' fun e w'=>e = .returned (.int .i64 0)/\Below q.w'.heap.size q.w' w':=fun q=>by
    have h:=zbm (.slice ob bks.length cap) bks 5 nm ot at_ va ep q.w' (by omega) (rb.of (Nat.le_refl _) q) hfm;rw [st.eq,href] at h;exact h
  have c0:=BelowOf.cell (v:=.int .i64 5) (za0 k0 0) (za2 k0);have c1:=BelowOf.cell (v:=.string nm) (za0 k0 1) (za2 k0);have c2:=BelowOf.cell (v:=.string ot) (za0 k0 2) (za2 k0);have c3:=BelowOf.cell (v:=.int .i64 at_) (za0 k0 3) (za2 k0);have c4:=BelowOf.cell (v:=.int .i64 va) (za0 k0 4) (za2 k0);have c5:=BelowOf.cell (v:=.int .i64 ep) (za0 k0 5) (za2 k0);have cB:=BelowOf.cell (v:=.slice ob bks.length cap) (st0.c2) (st0.lt)
  go_wp2_with fail
  refine zad (by kernel_rfl) (by kernel_rfl) ?_
  repeat (go_big_quiet_step ((first | (go_at_call 139;with_reducible exact zb1 (H1 _)) | rfl)))
  refine wpQuiet_nil ?_;intro w2 hw2;obtain ⟨⟨wx,cx⟩,hwx⟩:=hw2;have b2 : Below w1.heap.size w1 w2:=by rw [hwx];exact cx
  clear hwx cx wx hne c0 c1 c2 c3 c4 c5 cB H1 rb;replace k0:=kb0 b2 k0;replace k1:=kb0 b2 k1;replace st0:=st0.below b2;replace d0:=za1 d0 b2;clear b2;have hne:=BelowOf.any w2;have rb : ReadsR 5 bookC w2.heap.size w2 (.slice ob bks.length cap) bks:=ReadsR.of_own zae st0.books.row
  have H2 : ∀ q : BelowOf w2,Calls Tryz.prog 140 #[.slice ob bks.length cap,.string nm] q.w' fun e w'=>e = .returned (.int .i64 i)/\w'=q.w':=fun q=>by
    have h:=zap (.slice ob bks.length cap) bks nm q.w' (rb.of (Nat.le_refl _) q);rw [hfb] at h;exact h
  have c1:=BelowOf.cell (v:=.string nm) (za0 k0 1) (za2 k0);have cB:=BelowOf.cell (v:=.slice ob bks.length cap) (st0.c2) (st0.lt)
  go_wp2_with fail
  refine zad (by kernel_rfl) (by kernel_rfl) ?_
  repeat (go_big_quiet_step ((first | (go_at_call 140;with_reducible exact zbw (H2 _)) | rfl)))
  refine wpQuiet_nil ?_;intro w3 hw3;obtain ⟨⟨wx,cx⟩,hwx⟩:=hw3;have b3 : Below w2.heap.size w2 w3:=by rw [hwx];exact cx
  clear hwx cx wx hne c1 cB H2 rb;replace k0:=kb0 b3 k0;replace k1:=kb0 b3 k1;replace st0:=st0.below b3;replace d0:=za1 d0 b3;clear b3;obtain ⟨g,hob⟩:=zdn st0.books.row (by omega);subst hob;obtain ⟨j0,ji,jz0,jz1,jz2⟩:=info_parts Tryz.infoRun;obtain ⟨⟨a0,a1,a2,a3,a4⟩,-⟩:=zaz st0.books.row i hi;have hown:=st0.books.maps _ (List.getElem_mem hi);rw [hat] at hmap HD
  obtain ⟨x,hx⟩ : ∃ x,bks[i]=x:=⟨_,rfl⟩
  have HX : Hid (bks[i]=x):=hx;rw [hx] at a0 a1 a2 a3 a4 hown hmap HD;clear hx;obtain ⟨xn,xz,xm,rs,xf,xe⟩:=x;simp only [Bk.pb] at a0 a1 a2 a3 a4 hown hmap HD;obtain ⟨mo,mc,hmf⟩:=za4 hown;subst hmf;have hfew16 : rs.length<=16:=by rw [mapOk,Bool.and_eq_true,decide_eq_true_iff] at hmap;exact hmap.2
  have HMP : Hid _:=hmap;have pB:=st0.c2;have p0:=za0 k0 0;have i0 : (0 : Int)<=(i : Int):=by omega
  have i1 : (i : Int) < (bks.length : Int):=by omega
  obtain ⟨w4,hw4,k7,b4,z4⟩:=zb4 w3 #[.string xn,.int .i64 xz,.slice mo rs.length mc,.bool xf,.int .i64 xe] 117;have HW4 : Hid (w4 = _):=hw4
  go_upto_region 18 with fail
  rw [<- HW4.out];clear HW4 hw4 pB p0 a0 a1 a2 a3 a4 z4;replace k0:=kb0 b4 k0;replace k1:=kb0 b4 k1;have st4:=st0.below b4;have own4:=za9 hown b4;replace d0:=za1 d0 b4;clear b4 hown st0;have rm4 : ReadsR 3 zak w4.heap.size w4 (.slice mo rs.length mc) rs:=ReadsR.of_own zat own4
  go_cut [8] (fun v wx=>∃ (n8 : Nat) (o9 : Option Addr) (c9 : Nat),v = .pointer (some ⟨n8,0,none⟩)/\wx.heap[n8]? = some (.cells #[.string ot,.int .i64 xz,.slice o9 rs.length c9,.bool false,.int .i64 0] 117 (0,0))/\wx.ownsRow w4.heap.size 172 3 (.slice o9 rs.length c9) rs.length (rs.flatMap zak)/\Below w4.heap.size w4 wx)
  case first =>
    have HLEN : Hid ((rs.flatMap zak).length=rs.length * 3):=zbb zat rs;have HSRC : Hid (∀ X : World,Below w4.heap.size w4 X->∀ j u,(rs.flatMap zak)[j]? = some u->∃ g' off',mo=some ⟨g',off',none⟩/\X.cell? ⟨g',off'+j,none⟩=some u):=fun X bX=>zd4 zat (by decide) (rm4.below bX)
    have HM : Hid (0+rs.length<=maxLen):=by rw [Hid];unfold maxLen;omega
    have HBY : Hid ((0+rs.length) * 24<=140737488355328):=by rw [Hid];omega
    have HZ1 : Hid (((w4.alloc (.cells #[] 172)).alloc (.cells #[.string ⟨#[]⟩,.int .i64 0,.slice none 0 0,.bool false,.int .i64 0] 117)).heap[w4.heap.size+1]? = some (.cells #[.string ⟨#[]⟩,.int .i64 0,.slice none 0 0,.bool false,.int .i64 0] 117 (0,0))):=by
      obtain ⟨W,hW,-,h,-⟩:=zc7 w4 #[] #[.string ⟨#[]⟩,.int .i64 0,.slice none 0 0,.bool false,.int .i64 0] 172 117;rw [hW] at h;exact h
    have HZ2 : Hid (((w4.alloc (.cells #[.string ⟨#[]⟩,.int .i64 0,.slice none 0 0,.bool false,.int .i64 0] 117)).alloc (.cells #[] 172)).heap[w4.heap.size]? = some (.cells #[.string ⟨#[]⟩,.int .i64 0,.slice none 0 0,.bool false,.int .i64 0] 117 (0,0))):=by
      obtain ⟨W,hW,h,-⟩:=zc7 w4 #[.string ⟨#[]⟩,.int .i64 0,.slice none 0 0,.bool false,.int .i64 0] #[] 117 172;rw [hW] at h;exact h
    have HKeep : ∀ W',Below w4.heap.size w4 W'->(Below w4.heap.size w4 W'/\W'.cell? ⟨w.heap.size,0,none⟩=some (.int .i64 5)/\W'.cell? ⟨w.heap.size,2,none⟩=some (.string ot)/\W'.cell? ⟨w3.heap.size,1,none⟩=some (.int .i64 xz)/\W'.cell? ⟨w3.heap.size,2,none⟩=some (.slice mo rs.length mc)):=fun W' hb=>by
      obtain ⟨y0,y1,y2,y3,y4,y5,y6⟩:=zng (X:=W') hb k0 k7;exact ⟨hb,y0,y1,y3,y4⟩
    go_wp2_with fail
    go_region_held3 (fun w'=>Below w4.heap.size w4 w'/\w'.cell? ⟨w.heap.size,0,none⟩=some (.int .i64 5)/\w'.cell? ⟨w.heap.size,2,none⟩=some (.string ot)/\w'.cell? ⟨w3.heap.size,1,none⟩=some (.int .i64 xz)/\w'.cell? ⟨w3.heap.size,2,none⟩=some (.slice mo rs.length mc))
      ((refine HKeep _ ?_;repeat (first | exact Below.refl _ _ | exact ba | refine zar ?_ | refine za3 ?_ | refine zb8 ?_ (by first | exact Nat.le_refl _ | (have:=ba.size;simp at this ⊢;omega) | (simp <;> omega)) _)))
      (first
    | (refine zan rfl (.tmp 87) (.tmp 89) 115 rfl w4.heap.size 172 j0 (.agg #[.int .i64 0,.int .i64 0,.int .i64 0]) 3 24 Tryz.underlying115 ji jz0 jz1 jz2 rfl (by decide) (.slice (some ⟨w4.heap.size,0,none⟩) 0 0) 0 [] ?e1 ?own mo rs.length mc (rs.flatMap zak) ?e2 HLEN.out ?hn (zey rs) HM.out HBY.out ?hbase ?_
       case e1=>first | rfl | simp [Act.eval]
       case e2=>first | rfl | simp [Act.eval]
       case own=>exact zd3 w4
       case hn=>exact HSRC.out _ (za3 (Below.refl _ _)).drew
       case hbase=>simp <;> omega
       intro va' wa owna growa nila;obtain ⟨oa,ca,hva'⟩:=za4 owna;subst hva';have ba : Below w4.heap.size w4 wa:=((za3 (Below.refl _ _)).drew).grown growa (by simp <;> omega) (fun z hz=>by simp [Value.ownBlock] at hz;omega)
       skip)
    | (refine zan rfl (.tmp 87) (.tmp 89) 115 rfl w4.heap.size 172 j0 (.agg #[.int .i64 0,.int .i64 0,.int .i64 0]) 3 24 Tryz.underlying115 ji jz0 jz1 jz2 rfl (by decide) (.slice (some ⟨w4.heap.size,0,none⟩) 0 0) 0 [] ?e1 ?own mo rs.length mc (rs.flatMap zak) ?e2 HLEN.out ?hn (zey rs) HM.out HBY.out ?hbase ?_
       case e1=>first | rfl | simp [Act.eval]
       case e2=>first | rfl | simp [Act.eval]
       case own=>exact (zd3 w4).alloc (.cells #[.string ⟨#[]⟩,.int .i64 0,.slice none 0 0,.bool false,.int .i64 0] 117)
       case hn=>exact HSRC.out _ (za3 (za3 (Below.refl _ _))).drew
       case hbase=>simp <;> omega
       intro va' wa owna growa nila;obtain ⟨oa,ca,hva'⟩:=za4 owna;subst hva';have ba : Below w4.heap.size w4 wa:=((za3 (za3 (Below.refl _ _))).drew).grown growa (by simp <;> omega) (fun z hz=>by simp [Value.ownBlock] at hz;omega)
       have kz:=(growa.block (w4.heap.size+1) (by simp <;> omega) (by simp [Value.ownBlock])).trans HZ1.out;have zc0:=za0 kz 0;have zf0:=za8 kz 0;have zc1:=za0 kz 1;have zf1:=za8 kz 1;have zc2:=za0 kz 2;have zf2:=za8 kz 2;have zc3:=za0 kz 3;have zf3:=za8 kz 3;have zc4:=za0 kz 4;have zf4:=za8 kz 4)
    | (refine zan rfl (.tmp 87) (.tmp 89) 115 rfl w4.heap.size 172 j0 (.agg #[.int .i64 0,.int .i64 0,.int .i64 0]) 3 24 Tryz.underlying115 ji jz0 jz1 jz2 rfl (by decide) (.slice (some ⟨w4.heap.size+1,0,none⟩) 0 0) 0 [] ?e1 ?own mo rs.length mc (rs.flatMap zak) ?e2 HLEN.out ?hn (zey rs) HM.out HBY.out ?hbase ?_
       case e1=>first | rfl | simp [Act.eval]
       case e2=>first | rfl | simp [Act.eval]
       case own=>exact (by have h:=zd3 (w4.alloc (.cells #[.string ⟨#[]⟩,.int .i64 0,.slice none 0 0,.bool false,.int .i64 0] 117));rw [show (w4.alloc (.cells #[.string ⟨#[]⟩,.int .i64 0,.slice none 0 0,.bool false,.int .i64 0] 117)).heap.size=w4.heap.size+1 by simp] at h;exact zah h (by omega))
       case hn=>exact HSRC.out _ (za3 (za3 (Below.refl _ _))).drew
       case hbase=>simp <;> omega
       intro va' wa owna growa nila;obtain ⟨oa,ca,hva'⟩:=za4 owna;subst hva';have ba : Below w4.heap.size w4 wa:=((za3 (za3 (Below.refl _ _))).drew).grown growa (by simp <;> omega) (fun z hz=>by simp [Value.ownBlock] at hz;omega)
       have kz:=(growa.block w4.heap.size (by simp <;> omega) (by simp [Value.ownBlock])).trans HZ2.out;have zc0:=za0 kz 0;have zf0:=za8 kz 0;have zc1:=za0 kz 1;have zf1:=za8 kz 1;have zc2:=za0 kz 2;have zf2:=za8 kz 2;have zc3:=za0 kz 3;have zf3:=za8 kz 3;have zc4:=za0 kz 4;have zf4:=za8 kz 4))
    · rename_i hh
      rw [Nat.zero_add,List.nil_append] at owna;have HF : Hid _:=And.intro (zo2 wa #[.string ot,.int .i64 xz,.slice oa rs.length ca,.bool false,.int .i64 0] 117) (And.intro (owna.alloc (.cells #[.string ot,.int .i64 xz,.slice oa rs.length ca,.bool false,.int .i64 0] 117)) hh.1);clear growa nila owna
      go_wp2_with fail
      go_meet
      exact ⟨wa.heap.size,oa,ca,rfl,HF.out⟩
    · rename_i hh
      rw [Nat.zero_add,List.nil_append] at owna;have HF : Hid _:=And.intro (zev kz (.string ot) (.int .i64 xz) (.slice oa rs.length ca) (.bool false) (.int .i64 0)) (And.intro (zea owna kz (.string ot) (.int .i64 xz) (.slice oa rs.length ca) (.bool false) (.int .i64 0)) hh.1);clear growa nila owna kz
      go_wp2_with fail
      go_meet
      exact ⟨w4.heap.size+1,oa,ca,rfl,HF.out⟩
    · rename_i hh
      rw [Nat.zero_add,List.nil_append] at owna;have HF : Hid _:=And.intro (zev kz (.string ot) (.int .i64 xz) (.slice oa rs.length ca) (.bool false) (.int .i64 0)) (And.intro (zea owna kz (.string ot) (.int .i64 xz) (.slice oa rs.length ca) (.bool false) (.int .i64 0)) hh.1);clear growa nila owna kz
      go_wp2_with fail
      go_meet
      exact ⟨w4.heap.size,oa,ca,rfl,HF.out⟩
  case rest =>
    obtain ⟨n8,o9,c9,rfl,k8,own9,b5⟩:=hcut;generalize wc=w5 at *;replace k0:=kb0 b5 k0;replace k1:=kb0 b5 k1;replace k7:=kb0 b5 k7;have st5:=st4.below b5;have d5:=za1 d0 b5;have rm5:=(rm4.below b5).mono b5.size;have hb4 : base<=w4.heap.size:=st4.hbase;have own9b:=zah own9 hb4;have p72:=za0 k7 2;clear b5 st4 d0 rm4 own4 own9
    go_wp2_with fail
    clear p72;refine (zow _ rs _ HMP.out rm5).mono ?_;rintro e w6 ⟨vp,rfl,ownp,hnp,b6⟩;have hpe : pagesOf rs=(za7 rs).filter (fun p=>decide (0<=p)):=by rw [pagesOf,if_pos HMP.out]
    rw [<- hpe] at ownp
    obtain ⟨l,hl⟩ : ∃ l,pagesOf rs=l:=⟨_,rfl⟩
    rw [hl] at ownp;obtain ⟨op,cp,hvp⟩:=za4 ownp;subst hvp;have hrs : s.bs[i].rs=rs:=by have h1:=st.eq;simp only [<- h1,List.getElem_map,HX.out,Bk.pb]
    have HSN : Hid _:=fun q=>zl6 inv i hib q
    rw [hrs] at HSN
    have hvlt : ∀ q,v1.ownBlock=some q\/v2.ownBlock=some q->q < w5.heap.size:=fun q h=>by
      rcases h with h | h
      · exact (st5.pool.c.lt q h).2
      · exact (st5.pool.p.lt q h).2
    replace k1:=kb0 b6 k1;replace k8:=kb0 b6 k8;have st6:=st5.below b6;have d6:=za1 d5 b6;have own6:=za9 own9b b6;have hn1:=inv.n1;have hpp:=inv.cells.p;obtain ⟨g1,c1,g2,c2,hv1,hv2,hne12⟩:=zfs st6.pool (by omega) hpp;subst hv1 hv2;have hl16 : l.length<=16:=by rw [<- hl];exact zfb rs
    rw [hl] at HSN HD;clear b6 st5 d5 rm5 own9b hpe hnp k0 k7 hl
    go_wp2_with fail
    go_loopw [10] (fun k wr=>∃ q : Nat,q<=l.length/\k = .int .i64 q/\OwnP base wr (.slice (some ⟨g1,0,none⟩) s.cs.length c1) (.slice (some ⟨g2,0,none⟩) s.ps.length c2) (shareAll s.cs (l.take q)) s.ps/\Only (fun z=>(Value.slice (some ⟨g1,0,none⟩) s.cs.length c1).ownBlock=some z\/(Value.slice (some ⟨g2,0,none⟩) s.ps.length c2).ownBlock=some z) w6 wr) (fun k _=>l.length - (intOf k).toNat)
    case atStart=>exact ⟨0,Nat.zero_le _,rfl,by rw [List.take_zero];exact st6.pool,Only.refl _ _⟩
    case round =>
      obtain ⟨q,hq,rfl,ownq,onq⟩:=hrel;have stq:=st6.pooled ownq onq;have ownpq:=zci ownp onq hvlt;by_cases hlt : q < l.length
      · obtain ⟨hsl,hsq⟩:=HSN.out q
        obtain ⟨hp0,hp1,hp2,hp3⟩:=hsq hlt;have hstep:=zhl s.cs l q hlt;obtain ⟨gp,hgp⟩:=zi0 ownpq (by omega);subst hgp;have cQ0:=ownpq.cellAt q (show q < l.length * 1 by omega);have cQ : wr.drew.cell? ⟨gp,q,none⟩=some (.int .i64 l[q]):=cQ0.trans (by rw [List.getElem?_map,List.getElem?_eq_getElem hlt];rfl);obtain ⟨kp,hkp⟩:=Int.eq_ofNat_of_zero_le hp0;rw [hkp] at cQ hstep hp1 hp2 hp3;rw [Int.toNat_natCast] at hstep hp1 hp2 hp3;have HST : Hid _:=hstep
        obtain ⟨cs',hcs'⟩ : ∃ cs',shareAll s.cs (l.take q)=cs':=⟨_,rfl⟩
        rw [hcs'] at ownq hsl hp2 hp3 HST;have ownN:=ownq;rw [<- hsl] at ownN;have cC0:=ownN.c.cellAt kp (show kp < cs'.length * 1 by omega);have cC : wr.drew.cell? ⟨g1,kp,none⟩=some (.int .i64 (cs'.getD kp 0)):=cC0.trans (getD_some cs' kp (by omega));have fC : wr.drew.frozen? ⟨g1,kp,none⟩=false:=ownN.c.frozenAt kp;have b0 : wr.drew.cell? ⟨b,off,none⟩=some (.slice (some ⟨g1,0,none⟩) s.cs.length c1):=stq.c0;have ownN2:=ownN.set1 kp (cs'.getD kp 0+1);rw [hsl] at ownN2;have onN:=onq.setCell ⟨g1,kp,none⟩ (.inl rfl) (.int .i64 (cs'.getD kp 0+1));have HR : Hid _:=And.intro (ownN2.below ((Below.refl _ _).drew)) (onN.below ((Below.refl _ _).drew));have hw : IntKind.i64.wrap (cs'.getD kp 0+1)=cs'.getD kp 0+1:=by rw [IntKind.wrap_i64];omega
        have j0' : (0 : Int)<=(q : Int):=by omega
        have j1' : (q : Int) < (l.length : Int):=by omega
        have j2' : (0 : Int)<=(kp : Int):=by omega
        have j3' : (kp : Int) < (s.cs.length : Int):=by omega
        clear ownq ownN ownN2 onN onq stq ownpq hstep hcs' hsq hkp cC0 cQ0;generalize cs'.getD kp 0=cc at *
        go_wp2_with fail
        go_region
        go_wp2_with fail
        go_roundw
        case rel=>exact ⟨q+1,by omega,by go_num,by rw [HST.out];exact HR.out⟩
        case measure=>simp [intOf];omega
      · have htk : l.take q=l:=List.take_of_length_le (by omega)
        rw [htk] at stq
        have own9q : wr.ownsRow base 172 3 (.slice o9 rs.length c9) rs.length (rs.flatMap zak):=zbd own6 onq (fun g' hg' hS=>by
          rcases hS with h | h
          · exact zbh own6 st6.pool.c (by decide) g' h hg'
          · exact zbh own6 st6.pool.p (by decide) g' h hg')
        have onW : Only (ShW b (.slice (some ⟨g1,0,none⟩) s.cs.length c1) (.slice (some ⟨g2,0,none⟩) s.ps.length c2) (.slice (some ⟨g,0,none⟩) bks.length cap)) w6 wr:=onq.mono (fun z hz=>hz.elim (fun q=>.inr (.inl q)) (fun q=>.inr (.inr (.inl q))));have k1q:=st6.keeps onW k1 HTY.out.rp (by decide) (by decide)
        have k8q:=(onq.block n8 (za2 k8) (fun hS=>by
          rcases hS with h | h
          · exact zaa st6.pool.c k8 (by decide) h
          · exact zaa st6.pool.p k8 (by decide) h)).trans k8
        have dq:=(zdu hbase d6).trans (st6.only_below onW);obtain ⟨x0,x1,x2,x3,x4⟩:=cq5 k8q;clear ownq onq ownpq st6 onW k8 k1 d6 htk own6 ownp
        go_wp2_with fail
        clear x0 x1 x2 x3 x4;refine (zfk G C T off base b _ _ _ bks ⟨shareAll s.cs l,s.ps,s.bs⟩ ⟨ot,xz,.slice o9 rs.length c9,rs,false,0⟩ _ stq hfew own9q).mono ?_;rintro e w8 ⟨vb',bks',rfl,st8,on8⟩;have k1w:=stq.keeps_b on8 k1q HTY.out.rp;have hb8 : Fr G base wr w8:=stq.box_only on8;have HS : Hid _:=zcb HD.out (Nat.le_succ_of_le hbase) (HGG.out _ (by omega)) k1w st8 (dq.trans hb8);obtain ⟨q0,q1⟩:=cq2 k1w;obtain ⟨f0,f1⟩:=oq2 k1w;clear k1w k1q k8q stq st8 hb8 dq st HD on8 own9q
        go_wp2_with fail
        exact bodyPost_ret (v:=.agg #[.int .i64 0,.int .i64 0]) (by simp [results,Tryz.results86,go_sem,za0 HS.out.1]) rfl HS.out.2
end Go.Proofs.YtfkkapdofjhgpaaGreatDoor
