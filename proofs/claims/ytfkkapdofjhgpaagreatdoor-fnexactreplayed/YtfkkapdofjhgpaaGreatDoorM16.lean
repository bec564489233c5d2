import Derived.Test.YtfkkapdofjhgpaaGreatDoorM08
import Derived.Test.YtfkkapdofjhgpaaGreatDoorM12
import Derived.Test.YtfkkapdofjhgpaaGreatDoorM13
set_option maxHeartbeats 12800000
namespace Go.Proofs.YtfkkapdofjhgpaaGreatDoor
open Go.RowKit
set_option linter.unusedVariables false
set_option maxRecDepth 100000
theorem ze7 {G : Nat->Prop} {C : Array Value} {T : TypeId} {off base b : Nat} {wx X : World} {v1 v2 vb : Value} {bks : List Bk} {s : Sf} (bX : Below wx.heap.size wx X) (st : ShSg G C T off base b wx v1 v2 vb bks s) : X.cell? ⟨b,off+2,none⟩=some vb/\X.frozen? ⟨b,off+2,none⟩=false :=
  ⟨(st.below bX).c2,(st.below bX).f2⟩
theorem zpe {G : Nat->Prop} {C : Array Value} {T : TypeId} {off base b i n : Nat} {wx wd : World} {v1 v2 vb : Value} {bks : List Bk} {s : Sf} {od : Option Addr} {cd : Nat} (hi : i < bks.length) (hn : bks.length=n) (st2 : ShSg G C T off base b wx v1 v2 vb bks s) (bd : Below wx.heap.size wx wd)
    (ownd : wd.ownsRow wx.heap.size 117 5 (.slice od (0+i+(n - (i+1))) cd) (0+i+(n - (i+1))) ([] ++ (bks.take i).flatMap bookC ++ (bks.drop (i+1)).flatMap bookC)) :
    ShSg G C T off base b (wd.setCell ⟨b,off+2,none⟩ (.slice od (i+(n - (i+1))) cd)) v1 v2 (.slice od (i+(n - (i+1))) cd) (bks.take i ++ bks.drop (i+1)) ⟨s.cs,s.ps,s.bs.take i ++ s.bs.drop (i+1)⟩/\Fr G base wx (wd.setCell ⟨b,off+2,none⟩ (.slice od (i+(n - (i+1))) cd)):=by
  subst hn;rw [Nat.zero_add] at ownd
  have hl : (bks.take i ++ bks.drop (i+1)).length=i+(bks.length - (i+1)):=by
    rw [List.length_append,List.length_take,List.length_drop,Nat.min_eq_left (by omega)]
  have hf : (bks.take i ++ bks.drop (i+1)).flatMap bookC = [] ++ (bks.take i).flatMap bookC ++ (bks.drop (i+1)).flatMap bookC:=by
    rw [List.flatMap_append,List.nil_append]
  have hbx : base<=wx.heap.size:=st2.hbase
  have nb : OwnB base wd (.slice od (i+(bks.length - (i+1))) cd) (bks.take i ++ bks.drop (i+1)):=by
    refine ⟨by rw [hl,hf];exact zah ownd hbx,fun y hy=>?_⟩;rcases List.mem_append.1 hy with hy | hy
    · exact za9 (st2.books.maps y (List.mem_of_mem_take hy)) bd
    · exact za9 (st2.books.maps y (List.mem_of_mem_drop hy)) bd
  obtain ⟨st4,b4⟩:=(st2.below bd).rebook nb (fun g hg hG=>by have h1:=(ownd.lt g hg).1;have h2:=st2.gl g hG;omega);have hins : s.bs.take i ++ s.bs.drop (i+1)=(bks.take i ++ bks.drop (i+1)).map Bk.pb:=by rw [<- st2.eq,List.map_append,List.map_take,List.map_drop]
  rw [hins];exact ⟨st4,(zdu hbx bd).trans b4⟩
theorem zxc (G : Nat->Prop) (C : Array Value) (T : TypeId) (off base b : Nat) (v1 v2 vb : Value) (bks : List Bk) (s : Sf) (nm ot : ByteArray) (at_ va ep : Int) (w : World) (hn : nm.size<=maxLen) (ho : ot.size<=maxLen) (inv : ShInv s) (st : ShSg G C T off base b w v1 v2 vb bks s) (hok : opOk ⟨6,nm,ot,at_,va,ep⟩=true) (href : za5 s.bs ⟨6,nm,ot,at_,va,ep⟩=0) :
    Calls Tryz.prog 86 #[.pointer (some ⟨b,off,none⟩),.agg #[.int .i64 6,.string nm,.string ot,.int .i64 at_,.int .i64 va,.int .i64 ep]] w (DoPostG G C T off base b v1 v2 s ⟨6,nm,ot,at_,va,ep⟩ w):=by
  obtain ⟨i,hi,hib,hfp,hfb,hat,hbk⟩:=zgu (o:=⟨6,nm,ot,at_,va,ep⟩) st href (show (6 : Int) ≠ 1 by decide);have ha16:=zjq inv hok href (show (6 : Int) ≠ 1 by decide);simp only at hfp hfb hbk ha16;have hmap:=(zaw (inv.oks _ (List.getElem_mem hib))).2.2.2.1
  have HD : Hid (doOp s ⟨6,nm,ot,at_,va,ep⟩=(⟨(cutBook s i 0).cs,(cutBook s i 0).ps,s.bs.take i ++ s.bs.drop (i+1)⟩,(0,0))):=by
    rw [Hid,doOp,if_neg (by rw [hok];decide),if_neg (by rw [href];decide),if_neg (show ¬ (6 : Int)=1 by decide),if_pos rfl,hfp,Int.toNat_natCast]
  have hset1 : (cutBook s i 0).bs.take i=s.bs.take i:=by
    rw [cutBook,List.take_set_of_le (Nat.le_refl _)]
  have hset2 : (cutBook s i 0).bs.drop (i+1)=s.bs.drop (i+1):=by
    rw [cutBook,List.drop_set_of_lt (by omega)]
  obtain ⟨ob,cap,hvf⟩:=za4 st.books.row;subst hvf;have hbase : base<=w.heap.size:=st.hbase;have HGG : Hid (∀ k,w.heap.size<=k->¬ G k):=fun k hk q=>by have:=st.gl k q;omega
  have HTY : Hid (HoldsSh T):=st.hT;have hfew : bks.length<=6:=by rw [st.len];exact inv.few
  obtain ⟨W0,hW0,k0,k1,d0,z0⟩:=zc7 w #[.int .i64 6,.string nm,.string ot,.int .i64 at_,.int .i64 va,.int .i64 ep] #[.int .i64 0,.int .i64 0] 37 43;have HW0 : Hid (W0 = _):=hW0;have st0:=st.below d0;clear hW0 z0
  go_enter Tryz.func86,Tryz.ntmps86
  go_wp2_with fail
  rw [<- HW0.out];clear HW0;refine (zbl 6 nm ot at_ va ep _ hn ho).mono ?_;rintro e w1 ⟨rfl,b1⟩;rw [hok];replace k0:=kb0 b1 k0;replace k1:=kb0 b1 k1;replace st0:=st0.below b1;replace d0:=za1 d0 b1;clear b1;have hne:=BelowOf.any w1;have rb : ReadsR 5 bookC w1.heap.size w1 (.slice ob bks.length cap) bks:=ReadsR.of_own zae st0.books.row;have hfm:=st0.forms
  have H1 : ∀ q : BelowOf w1,Calls Tryz.prog 139 #[.slice ob bks.length cap,.agg #[.int .i64 6,.string nm,.string ot,.int .i64 at_,.int .i64 va,.int .i64 ep]] q.w' fun e w'=>e = .returned (.int .i64 0)/\Below q.w'.heap.size q.w' w':=fun q=>by
    have h:=zbm (.slice ob bks.length cap) bks 6 nm ot at_ va ep q.w' (by omega) (rb.of (Nat.le_refl _) q) hfm;rw [st.eq,href] at h;exact h
  have c0:=BelowOf.cell (v:=.int .i64 6) (za0 k0 0) (za2 k0);have c1:=BelowOf.cell (v:=.string nm) (za0 k0 1) (za2 k0);have c2:=BelowOf.cell (v:=.string ot) (za0 k0 2) (za2 k0);have c3:=BelowOf.cell (v:=.int .i64 at_) (za0 k0 3) (za2 k0);have c4:=BelowOf.cell (v:=.int .i64 va) (za0 k0 4) (za2 k0);have c5:=BelowOf.cell (v:=.int .i64 ep) (za0 k0 5) (za2 k0);have cB:=BelowOf.cell (v:=.slice ob bks.length cap) (st0.c2) (st0.lt)
  go_wp2_with fail
  refine zad (by kernel_rfl) (by kernel_rfl) ?_
  repeat (go_big_quiet_step ((first | (go_at_call 139;with_reducible exact zb1 (H1 _)) | rfl)))
  refine wpQuiet_nil ?_;intro w2 hw2;obtain ⟨⟨wx,cx⟩,hwx⟩:=hw2;have b2 : Below w1.heap.size w1 w2:=by rw [hwx];exact cx
  clear hwx cx wx hne c0 c1 c2 c3 c4 c5 cB H1 rb;replace k0:=kb0 b2 k0;replace k1:=kb0 b2 k1;replace st0:=st0.below b2;replace d0:=za1 d0 b2;clear b2;have hne:=BelowOf.any w2;have rb : ReadsR 5 bookC w2.heap.size w2 (.slice ob bks.length cap) bks:=ReadsR.of_own zae st0.books.row
  have H2 : ∀ q : BelowOf w2,Calls Tryz.prog 140 #[.slice ob bks.length cap,.string nm] q.w' fun e w'=>e = .returned (.int .i64 i)/\w'=q.w':=fun q=>by
    have h:=zap (.slice ob bks.length cap) bks nm q.w' (rb.of (Nat.le_refl _) q);rw [hfb] at h;exact h
  have c1:=BelowOf.cell (v:=.string nm) (za0 k0 1) (za2 k0);have cB:=BelowOf.cell (v:=.slice ob bks.length cap) (st0.c2) (st0.lt)
  go_wp2_with fail
  refine zad (by kernel_rfl) (by kernel_rfl) ?_
  repeat (go_big_quiet_step ((first | (go_at_call 140;with_reducible exact zbw (H2 _)) | rfl)))
  refine wpQuiet_nil ?_;intro w3 hw3;obtain ⟨⟨wx,cx⟩,hwx⟩:=hw3;have b3 : Below w2.heap.size w2 w3:=by rw [hwx];exact cx
  clear hwx cx wx hne c1 cB H2 rb;replace k0:=kb0 b3 k0;replace k1:=kb0 b3 k1;replace st0:=st0.below b3;replace d0:=za1 d0 b3;clear b3;obtain ⟨g,hob⟩:=zdn st0.books.row (by omega);subst hob;obtain ⟨i0,hi0,hz0,hz1,hz2⟩:=info_parts Tryz.infoBook;have p0:=za0 k0 0
  go_wp2_with fail
  clear p0;refine (zl8 G C T off base b g cap i 0 v1 v2 bks s _ hi (by omega) inv st0).mono ?_;rintro e w5 ⟨bks',rfl,hbl,st5,on5⟩;replace k0:=st0.keeps on5 k0 HTY.out.o (by decide) (by decide);replace k1:=st0.keeps on5 k1 HTY.out.rp (by decide) (by decide);have d5:=(zdu hbase d0).trans (st0.only_below on5);clear st0 d0 on5;have hi' : i < bks'.length:=by rw [hbl];exact hi
  have hcl : bks.length<=cap:=by
    rcases st5.books.row.2 with ⟨e,_⟩ | ⟨g',cap',cur,e,_,hh,h1,_⟩
    · simp at e
    · simp only [Value.slice.injEq,Option.some.injEq,Addr.mk.injEq,and_true] at e
      omega
  have rr : ReadsR 5 bookC w5.heap.size w5 (.slice (some ⟨g,0,none⟩) bks.length cap) bks':=ReadsR.of_own zae st5.books.row;have hfm5:=st5.forms;have HD2 : Hid (∀ u ∈ (bks'.drop (i+1)).flatMap bookC,u.oneCell'=true):=ze6 _ (fun b hb=>hfm5 b (List.mem_of_mem_drop hb));have HT : Hid (∀ u ∈ (bks'.take i).flatMap bookC,u.oneCell'=true):=ze6 _ (fun b hb=>hfm5 b (List.mem_of_mem_take hb));have HDL : Hid (((bks'.drop (i+1)).flatMap bookC).length=(bks.length - (i+1)) * 5):=by rw [Hid,zbb zae,List.length_drop,hbl]
  have HTL : Hid (((bks'.take i).flatMap bookC).length=i * 5):=by rw [Hid,zbb zae,List.length_take,Nat.min_eq_left (by omega)]
  have HS1 : Hid (∀ X : World,Below w5.heap.size w5 X->∀ j u,((bks'.take i).flatMap bookC)[j]? = some u->∃ g' off',some (⟨g,0,none⟩ : Addr)=some ⟨g',off',none⟩/\X.cell? ⟨g',off'+j,none⟩=some u):=fun X bX=>zd4 zae (by decide) ((rr.take i (by omega)).below bX)
  have HM1 : Hid (0+i<=maxLen):=by rw [Hid];unfold maxLen;omega
  have HB1 : Hid ((0+i) * 64<=140737488355328):=by rw [Hid];omega
  have HM2 : Hid (0+i+(bks.length - (i+1))<=maxLen):=by rw [Hid];unfold maxLen;omega
  have HB2 : Hid ((0+i+(bks.length - (i+1))) * 64<=140737488355328):=by rw [Hid];omega
  obtain ⟨x0b,x0f⟩:=ze7 (X:=w5.drew) ((Below.refl _ _).drew) st5;obtain ⟨x1b,x1f⟩:=ze7 (X:=(w5.alloc (.cells #[] 117)).drew) ((za3 (Below.refl _ _)).drew) st5;have p0:=za0 k0 0;have hw1 : IntKind.i64.wrap ((i : Int)+1)=(i : Int)+1:=by rw [IntKind.wrap_i64];omega
  have hw2 : ((i : Int)+1).toNat=i+1:=by omega
  have j0 : (0 : Int)<=(i : Int):=by omega
  have j1 : (i : Int)<=(bks.length : Int):=by omega
  have j2 : (i : Int)<=(cap : Int):=by omega
  have j3 : (0 : Int)<=(i : Int)+1:=by omega
  have j4 : (i : Int)+1<=(bks.length : Int):=by omega
  have j5 : (i : Int)+1<=(cap : Int):=by omega
  by_cases hcp : cap=i+1
  · have hdr : (bks'.drop (i+1)).flatMap bookC = []:=by rw [List.drop_of_length_le (by omega)];rfl
    have jx : (i : Int)<=(i : Int)+1:=by omega
    have HS2 : Hid (∀ X : World,∀ j u,((bks'.drop (i+1)).flatMap bookC)[j]? = some u->∃ g' off',some (⟨g,0,none⟩ : Addr)=some ⟨g',off',none⟩/\X.cell? ⟨g',off'+j,none⟩=some u):=fun X j u h=>by rw [hdr] at h;simp at h
    go_wp2_with fail
    go_region_law (first
      | (refine zan rfl (.tmp 54) (.tmp 60) 28 rfl w5.heap.size 117 i0 (.agg #[.string ByteArray.empty,.int .i64 0,.slice none 0 0,.bool false,.int .i64 0]) 5 64 Tryz.underlying28 hi0 hz0 hz1 hz2 rfl (by decide) (.slice (some ⟨w5.heap.size,0,none⟩) 0 0) 0 [] ?e1 ?own (some ⟨g,0,none⟩) i (i+1) ((bks'.take i).flatMap bookC) ?e2 HTL.out ?hn HT.out HM1.out HB1.out ?hbase ?_
         case e1=>first | rfl | simp [Act.eval]
         case e2=>first | rfl | simp [Act.eval]
         case own=>exact zcf w5
         case hn=>exact HS1.out _ (za3 (Below.refl _ _)).drew
         case hbase=>simp <;> omega
         intro va' wa owna growa nila;have ba : Below w5.heap.size w5 wa:=((za3 (Below.refl _ _)).drew).grown growa (by simp <;> omega) (fun z hz=>by simp [Value.ownBlock] at hz;omega)
         obtain ⟨eab,eaf⟩:=ze7 (X:=wa) ba st5)
      | (refine zan rfl (.tmp 61) (.tmp 68) 28 rfl w5.heap.size 117 i0 (.agg #[.string ByteArray.empty,.int .i64 0,.slice none 0 0,.bool false,.int .i64 0]) 5 64 Tryz.underlying28 hi0 hz0 hz1 hz2 rfl (by decide) va' (0+i) ([] ++ (bks'.take i).flatMap bookC) ?e1 owna (some ⟨g,0,none⟩) (bks.length - (i+1)) 0 ((bks'.drop (i+1)).flatMap bookC) ?e2 HDL.out (HS2.out _) HD2.out HM2.out HB2.out ?hbase ?_
         case e1=>first | rfl | simp [Act.eval]
         case e2=>first | rfl | simp [Act.eval]
         case hbase=>have:=ba.size;omega
         intro vd wd ownd growd nild;obtain ⟨od,cd,hvd⟩:=za4 ownd;subst hvd;have bd : Below w5.heap.size w5 wd:=ba.grown growd (by have:=ba.size;omega) (fun z hz=>(owna.lt z hz).1)
         obtain ⟨edb,edf⟩:=ze7 (X:=wd) bd st5))
    all_goals
      obtain ⟨st6,b6⟩:=zpe hi' hbl st5 bd ownd;rw [hset1,hset2] at st6;have hnb : ¬ w.heap.size+1=b:=st5.not_box k1 HTY.out.rp;have hnb' : ¬ b=w.heap.size+1:=fun e=>hnb e.symm
      have k6:=(Below.heap_setCell wd ⟨b,off+2,none⟩ (.slice od (i+(bks.length - (i+1))) cd) (w.heap.size+1) hnb).trans (kb0 bd k1);have k7:=kb0 bd k1;have HS : Hid _:=zcb HD.out (Nat.le_succ_of_le hbase) (HGG.out _ (by omega)) k6 st6 (d5.trans b6);obtain ⟨q0,q1⟩:=cq2 k7;obtain ⟨f0,f1⟩:=oq2 k7;clear k0 k1 k6 k7 st5 st6 b6 d5 st HD ownd owna growa growd bd ba HS1 HS2
      go_wp2_with fail
      exact bodyPost_ret (v:=.agg #[.int .i64 0,.int .i64 0]) (by simp [results,Tryz.results86,go_sem,za0 HS.out.1]) rfl HS.out.2
  · have rd2:=rr.drop (i+1) (by omega)
    rw [Nat.zero_add] at rd2;have HS2 : Hid (∀ X : World,Below w5.heap.size w5 X->∀ j u,((bks'.drop (i+1)).flatMap bookC)[j]? = some u->∃ g' off',some (⟨g,(i+1) * 5,none⟩ : Addr)=some ⟨g',off',none⟩/\X.cell? ⟨g',off'+j,none⟩=some u):=fun X bX=>zd4 zae (by decide) (rd2.below bX)
    go_wp2_with fail
    go_region_law (first
      | (refine zan rfl (.tmp 54) (.tmp 60) 28 rfl w5.heap.size 117 i0 (.agg #[.string ByteArray.empty,.int .i64 0,.slice none 0 0,.bool false,.int .i64 0]) 5 64 Tryz.underlying28 hi0 hz0 hz1 hz2 rfl (by decide) (.slice (some ⟨w5.heap.size,0,none⟩) 0 0) 0 [] ?e1 ?own (some ⟨g,0,none⟩) i cap ((bks'.take i).flatMap bookC) ?e2 HTL.out ?hn HT.out HM1.out HB1.out ?hbase ?_
         case e1=>first | rfl | simp [Act.eval]
         case e2=>first | rfl | simp [Act.eval]
         case own=>exact zcf w5
         case hn=>exact HS1.out _ (za3 (Below.refl _ _)).drew
         case hbase=>simp <;> omega
         intro va' wa owna growa nila;have ba : Below w5.heap.size w5 wa:=((za3 (Below.refl _ _)).drew).grown growa (by simp <;> omega) (fun z hz=>by simp [Value.ownBlock] at hz;omega)
         obtain ⟨eab,eaf⟩:=ze7 (X:=wa) ba st5)
      | (refine zan rfl (.tmp 61) (.tmp 68) 28 rfl w5.heap.size 117 i0 (.agg #[.string ByteArray.empty,.int .i64 0,.slice none 0 0,.bool false,.int .i64 0]) 5 64 Tryz.underlying28 hi0 hz0 hz1 hz2 rfl (by decide) va' (0+i) ([] ++ (bks'.take i).flatMap bookC) ?e1 owna (some ⟨g,(i+1) * 5,none⟩) (bks.length - (i+1)) (cap - (i+1)) ((bks'.drop (i+1)).flatMap bookC) ?e2 HDL.out (HS2.out _ ba) HD2.out HM2.out HB2.out ?hbase ?_
         case e1=>first | rfl | simp [Act.eval]
         case e2=>first | rfl | simp [Act.eval]
         case hbase=>have:=ba.size;omega
         intro vd wd ownd growd nild;obtain ⟨od,cd,hvd⟩:=za4 ownd;subst hvd;have bd : Below w5.heap.size w5 wd:=ba.grown growd (by have:=ba.size;omega) (fun z hz=>(owna.lt z hz).1)
         obtain ⟨edb,edf⟩:=ze7 (X:=wd) bd st5))
    all_goals
      obtain ⟨st6,b6⟩:=zpe hi' hbl st5 bd ownd;rw [hset1,hset2] at st6;have hnb : ¬ w.heap.size+1=b:=st5.not_box k1 HTY.out.rp;have hnb' : ¬ b=w.heap.size+1:=fun e=>hnb e.symm
      have k6:=(Below.heap_setCell wd ⟨b,off+2,none⟩ (.slice od (i+(bks.length - (i+1))) cd) (w.heap.size+1) hnb).trans (kb0 bd k1);have k7:=kb0 bd k1;have HS : Hid _:=zcb HD.out (Nat.le_succ_of_le hbase) (HGG.out _ (by omega)) k6 st6 (d5.trans b6);obtain ⟨q0,q1⟩:=cq2 k7;obtain ⟨f0,f1⟩:=oq2 k7;clear k0 k1 k6 k7 st5 st6 b6 d5 st HD ownd owna growa growd bd ba HS1 HS2
      go_wp2_with fail
      exact bodyPost_ret (v:=.agg #[.int .i64 0,.int .i64 0]) (by simp [results,Tryz.results86,go_sem,za0 HS.out.1]) rfl HS.out.2
theorem zxd (G : Nat->Prop) (C : Array Value) (T : TypeId) (off base b : Nat) (v1 v2 vb : Value) (bks : List Bk) (s : Sf) (nm ot : ByteArray) (at_ va ep : Int) (w : World) (hn : nm.size<=maxLen) (ho : ot.size<=maxLen) (inv : ShInv s) (st : ShSg G C T off base b w v1 v2 vb bks s) (hok : opOk ⟨7,nm,ot,at_,va,ep⟩=true) (href : za5 s.bs ⟨7,nm,ot,at_,va,ep⟩=0) :
    Calls Tryz.prog 86 #[.pointer (some ⟨b,off,none⟩),.agg #[.int .i64 7,.string nm,.string ot,.int .i64 at_,.int .i64 va,.int .i64 ep]] w (DoPostG G C T off base b v1 v2 s ⟨7,nm,ot,at_,va,ep⟩ w):=by
  obtain ⟨i,hi,hib,hfp,hfb,hat,hbk⟩:=zgu (o:=⟨7,nm,ot,at_,va,ep⟩) st href (show (7 : Int) ≠ 1 by decide);have ha16:=zjq inv hok href (show (7 : Int) ≠ 1 by decide);simp only at hfp hfb hbk ha16;have hmap:=(zaw (inv.oks _ (List.getElem_mem hib))).2.2.2.1;have HD : Hid (doOp s ⟨7,nm,ot,at_,va,ep⟩=doKind s ⟨7,nm,ot,at_,va,ep⟩ i s.bs[i] ((za7 s.bs[i].rs).getD at_.toNat 0)):=zig hok href (show (7 : Int) ≠ 1/\(7 : Int) ≠ 6/\kOther 7=false by decide) hfp hbk ha16.2;have hva:=(zc9 hok).2.2.2.2.1 rfl;simp only at hva;obtain ⟨ob,cap,hvf⟩:=za4 st.books.row;subst hvf;have hbase : base<=w.heap.size:=st.hbase;have HGG : Hid (∀ k,w.heap.size<=k->¬ G k):=fun k hk q=>by have:=st.gl k q;omega
  have HTY : Hid (HoldsSh T):=st.hT;have hfew : bks.length<=6:=by rw [st.len];exact inv.few
  obtain ⟨W0,hW0,k0,k1,d0,z0⟩:=zc7 w #[.int .i64 7,.string nm,.string ot,.int .i64 at_,.int .i64 va,.int .i64 ep] #[.int .i64 0,.int .i64 0] 37 43;have HW0 : Hid (W0 = _):=hW0;have st0:=st.below d0;clear hW0 z0
  go_enter Tryz.func86,Tryz.ntmps86
  go_wp2_with fail
  rw [<- HW0.out];clear HW0;refine (zbl 7 nm ot at_ va ep _ hn ho).mono ?_;rintro e w1 ⟨rfl,b1⟩;rw [hok];replace k0:=kb0 b1 k0;replace k1:=kb0 b1 k1;replace st0:=st0.below b1;replace d0:=za1 d0 b1;clear b1;have hne:=BelowOf.any w1;have rb : ReadsR 5 bookC w1.heap.size w1 (.slice ob bks.length cap) bks:=ReadsR.of_own zae st0.books.row;have hfm:=st0.forms
  have H1 : ∀ q : BelowOf w1,Calls Tryz.prog 139 #[.slice ob bks.length cap,.agg #[.int .i64 7,.string nm,.string ot,.int .i64 at_,.int .i64 va,.int .i64 ep]] q.w' fun e w'=>e = .returned (.int .i64 0)/\Below q.w'.heap.size q.w' w':=fun q=>by
    have h:=zbm (.slice ob bks.length cap) bks 7 nm ot at_ va ep q.w' (by omega) (rb.of (Nat.le_refl _) q) hfm;rw [st.eq,href] at h;exact h
  have c0:=BelowOf.cell (v:=.int .i64 7) (za0 k0 0) (za2 k0);have c1:=BelowOf.cell (v:=.string nm) (za0 k0 1) (za2 k0);have c2:=BelowOf.cell (v:=.string ot) (za0 k0 2) (za2 k0);have c3:=BelowOf.cell (v:=.int .i64 at_) (za0 k0 3) (za2 k0);have c4:=BelowOf.cell (v:=.int .i64 va) (za0 k0 4) (za2 k0);have c5:=BelowOf.cell (v:=.int .i64 ep) (za0 k0 5) (za2 k0);have cB:=BelowOf.cell (v:=.slice ob bks.length cap) (st0.c2) (st0.lt)
  go_wp2_with fail
  refine zad (by kernel_rfl) (by kernel_rfl) ?_
  repeat (go_big_quiet_step ((first | (go_at_call 139;with_reducible exact zb1 (H1 _)) | rfl)))
  refine wpQuiet_nil ?_;intro w2 hw2;obtain ⟨⟨wx,cx⟩,hwx⟩:=hw2;have b2 : Below w1.heap.size w1 w2:=by rw [hwx];exact cx
  clear hwx cx wx hne c0 c1 c2 c3 c4 c5 cB H1 rb;replace k0:=kb0 b2 k0;replace k1:=kb0 b2 k1;replace st0:=st0.below b2;replace d0:=za1 d0 b2;clear b2;have hne:=BelowOf.any w2;have rb : ReadsR 5 bookC w2.heap.size w2 (.slice ob bks.length cap) bks:=ReadsR.of_own zae st0.books.row
  have H2 : ∀ q : BelowOf w2,Calls Tryz.prog 140 #[.slice ob bks.length cap,.string nm] q.w' fun e w'=>e = .returned (.int .i64 i)/\w'=q.w':=fun q=>by
    have h:=zap (.slice ob bks.length cap) bks nm q.w' (rb.of (Nat.le_refl _) q);rw [hfb] at h;exact h
  have c1:=BelowOf.cell (v:=.string nm) (za0 k0 1) (za2 k0);have cB:=BelowOf.cell (v:=.slice ob bks.length cap) (st0.c2) (st0.lt)
  go_wp2_with fail
  refine zad (by kernel_rfl) (by kernel_rfl) ?_
  repeat (go_big_quiet_step ((first | (go_at_call 140;with_reducible exact zbw (H2 _)) | rfl)))
  refine wpQuiet_nil ?_;intro w3 hw3;obtain ⟨⟨wx,cx⟩,hwx⟩:=hw3;have b3 : Below w2.heap.size w2 w3:=by rw [hwx];exact cx
  clear hwx cx wx hne c1 cB H2 rb;replace k0:=kb0 b3 k0;replace k1:=kb0 b3 k1;replace st0:=st0.below b3;replace d0:=za1 d0 b3;clear b3;obtain ⟨g,hob⟩:=zdn st0.books.row (by omega);subst hob;obtain ⟨⟨a0,a1,a2,a3,a4⟩,e0,e1,e2,e3,e4⟩:=zaz st0.books.row i hi;have rm : ReadsR 3 zak w3.heap.size w3 bks[i].m bks[i].rs:=ReadsR.of_own zat (st0.books.maps _ (List.getElem_mem hi));rw [hat] at hmap HD
  obtain ⟨x,hx⟩ : ∃ x,bks[i]=x:=⟨_,rfl⟩
  have HX : Hid (bks[i]=x):=hx;rw [hx] at a0 a1 a2 a3 a4 rm hmap HD;clear hx;obtain ⟨xn,xz,xm,rs,xf,xe⟩:=x;simp only [Bk.pb] at a0 a1 a2 a3 a4 rm hmap HD;obtain ⟨mo,mc,hmf⟩:=rm.form;subst hmf;have HMP : Hid _:=hmap;have hpl:=zac rs;have pB:=st0.c2;have p0:=za0 k0 0;have p3:=za0 k0 3;have i0 : (0 : Int)<=(i : Int):=by omega
  have i1 : (i : Int) < (bks.length : Int):=by omega
  obtain ⟨a,haa⟩:=Int.eq_ofNat_of_zero_le ha16.1;subst haa;clear hmap e0 e1 e2 e3 e4 a0 a1 a3 a4 hat hbk hfp hfb
  go_wp2_with fail
  refine (zco _ rs _ HMP.out rm).mono ?_;rintro e w4 ⟨gp,cp,rfl,ownp,b4⟩;replace k0:=kb0 b4 k0;replace k1:=kb0 b4 k1;have stP:=st0.pool;replace st0:=st0.below b4;replace d0:=za1 d0 b4;have hpa : a < (za7 rs).length:=by rw [hpl];omega
  have cA:=(ownp.cellAt a (by omega)).trans (getD_some (za7 rs) a hpa);have a0' : (0 : Int)<=(a : Int):=by omega
  have a1' : (a : Int) < 16:=by omega
  clear b4 rm pB p0 p3 a2;rw [Int.toNat_natCast] at HD
  obtain ⟨page,hpage⟩ : ∃ page,(za7 rs).getD a 0=page:=⟨_,rfl⟩
  rw [hpage] at cA HD;clear hpage;obtain ⟨z,hz⟩:=Int.eq_ofNat_of_zero_le (show 0<=va by omega);subst hz;have p0:=za0 k0 0;have p3:=za0 k0 3;have p4:=za0 k0 4
  go_wp2_with fail
  refine (zvl (z : Int) 16 _).mono ?_;rw [show min (z : Int) 16=z by omega];rintro e w5 ⟨rfl,rfl⟩
  go_wp2_with fail
  clear p0 p3 p4 cA;refine (zl8 G C T off base b g cap i z v1 v2 bks s _ hi (by omega) inv st0).mono ?_;rintro e w5 ⟨bks',rfl,hbl,st5,on5⟩;replace k0:=st0.keeps on5 k0 HTY.out.o (by decide) (by decide);replace k1:=st0.keeps on5 k1 HTY.out.rp (by decide) (by decide);have d5:=(zdu hbase d0).trans (st0.only_below on5);have hi' : i < bks'.length:=by rw [hbl];exact hi
  obtain ⟨⟨-,a1,-,-,-⟩,-,e1,-,-,-⟩:=zaz st5.books.row i hi';have mp:=st5.books.maps bks'[i] (List.getElem_mem hi');have heq:=st5.eq
  obtain ⟨y,hy⟩ : ∃ y,bks'[i]=y:=⟨_,rfl⟩
  obtain ⟨yn,yz,ym,yr,yf,ye⟩:=y
  have hbkc : zau (cutBook s i z).bs i=⟨yn,yz,yr,yf,ye⟩:=by
    have hl : i < (cutBook s i z).bs.length:=by rw [<- heq,List.length_map];exact hi'
    rw [zbz _ i hl];have h2 : (cutBook s i z).bs[i]=bks'[i].pb:=by simp [<- heq]
    rw [h2,hy]
    rfl
  rw [hy] at a1 mp;simp only at a1 mp;obtain ⟨st6,b6⟩:=st5.put i 1 hi' (by decide) ⟨yn,z,ym,yr,yf,ye⟩ (.int .i64 z) (by rw [hy];rfl) mp;have hgn : ¬ g=w.heap.size+1:=fun e=>zaa st5.books.row k1 (by decide) (by rw [<- e];rfl)
  have hgn' : ¬ w.heap.size+1=g:=fun e=>hgn e.symm
  have k6:=(Below.heap_setCell w5 ⟨g,i * 5+1,none⟩ (.int .i64 z) (w.heap.size+1) hgn').trans k1;have HS : Hid _:=zcb (show doOp s ⟨7,nm,ot,(a : Int),(z : Int),ep⟩=(⟨(cutBook s i z).cs,(cutBook s i z).ps,(cutBook s i z).bs.set i ⟨yn,z,yr,yf,ye⟩⟩,(0,0)) by rw [HD.out,kind_7,Int.toNat_natCast,hbkc]) (Nat.le_succ_of_le hbase) (HGG.out _ (by omega)) k6 st6 (d5.trans b6);have pBd : w5.drew.cell? ⟨b,off+2,none⟩=some (.slice (some ⟨g,0,none⟩) bks.length cap):=st5.c2;have p4d : w5.drew.cell? ⟨w.heap.size,4,none⟩=some (.int .i64 z):=za0 k0 4;have p0:=za0 k0 0;have a1d : w5.drew.cell? ⟨g,i * 5+1,none⟩=some (.int .i64 yz):=a1;have e1d : w5.drew.frozen? ⟨g,i * 5+1,none⟩=false:=e1;obtain ⟨q0,q1⟩:=cq2 k1;obtain ⟨f0,f1⟩:=oq2 k1;clear k0 k1 k6 st0 st5 st6 b6 d0 d5 st HD heq mp hy hbkc on5
  go_wp2_with fail
  go_region
  go_wp2_with fail
  exact bodyPost_ret (v:=.agg #[.int .i64 0,.int .i64 0]) (by simp [results,Tryz.results86,go_sem,za0 HS.out.1]) rfl HS.out.2.drew
theorem zxe (G : Nat->Prop) (C : Array Value) (T : TypeId) (off base b : Nat) (v1 v2 vb : Value) (bks : List Bk) (s : Sf) (nm ot : ByteArray) (at_ va ep : Int) (w : World) (hn : nm.size<=maxLen) (ho : ot.size<=maxLen) (inv : ShInv s) (st : ShSg G C T off base b w v1 v2 vb bks s) (hok : opOk ⟨8,nm,ot,at_,va,ep⟩=true) (href : za5 s.bs ⟨8,nm,ot,at_,va,ep⟩=0) :
    Calls Tryz.prog 86 #[.pointer (some ⟨b,off,none⟩),.agg #[.int .i64 8,.string nm,.string ot,.int .i64 at_,.int .i64 va,.int .i64 ep]] w (DoPostG G C T off base b v1 v2 s ⟨8,nm,ot,at_,va,ep⟩ w):=by
  obtain ⟨i,hi,hib,hfp,hfb,hat,hbk⟩:=zgu (o:=⟨8,nm,ot,at_,va,ep⟩) st href (show (8 : Int) ≠ 1 by decide);have ha16:=zjq inv hok href (show (8 : Int) ≠ 1 by decide);simp only at hfp hfb hbk ha16;have hmap:=(zaw (inv.oks _ (List.getElem_mem hib))).2.2.2.1;have HD : Hid (doOp s ⟨8,nm,ot,at_,va,ep⟩=doKind s ⟨8,nm,ot,at_,va,ep⟩ i s.bs[i] ((za7 s.bs[i].rs).getD at_.toNat 0)):=zig hok href (show (8 : Int) ≠ 1/\(8 : Int) ≠ 6/\kOther 8=false by decide) hfp hbk ha16.2;have hbp:=(zaw (inv.oks _ (List.getElem_mem hib))).2.2.1;have h5:=(zbk href).2.2.2.2 rfl;simp only at h5;rw [hbk] at h5;obtain ⟨ob,cap,hvf⟩:=za4 st.books.row;subst hvf;have hbase : base<=w.heap.size:=st.hbase;have HGG : Hid (∀ k,w.heap.size<=k->¬ G k):=fun k hk q=>by have:=st.gl k q;omega
  have HTY : Hid (HoldsSh T):=st.hT;have hfew : bks.length<=6:=by rw [st.len];exact inv.few
  obtain ⟨W0,hW0,k0,k1,d0,z0⟩:=zc7 w #[.int .i64 8,.string nm,.string ot,.int .i64 at_,.int .i64 va,.int .i64 ep] #[.int .i64 0,.int .i64 0] 37 43;have HW0 : Hid (W0 = _):=hW0;have st0:=st.below d0;clear hW0 z0
  go_enter Tryz.func86,Tryz.ntmps86
  go_wp2_with fail
  rw [<- HW0.out];clear HW0;refine (zbl 8 nm ot at_ va ep _ hn ho).mono ?_;rintro e w1 ⟨rfl,b1⟩;rw [hok];replace k0:=kb0 b1 k0;replace k1:=kb0 b1 k1;replace st0:=st0.below b1;replace d0:=za1 d0 b1;clear b1;have hne:=BelowOf.any w1;have rb : ReadsR 5 bookC w1.heap.size w1 (.slice ob bks.length cap) bks:=ReadsR.of_own zae st0.books.row;have hfm:=st0.forms
  have H1 : ∀ q : BelowOf w1,Calls Tryz.prog 139 #[.slice ob bks.length cap,.agg #[.int .i64 8,.string nm,.string ot,.int .i64 at_,.int .i64 va,.int .i64 ep]] q.w' fun e w'=>e = .returned (.int .i64 0)/\Below q.w'.heap.size q.w' w':=fun q=>by
    have h:=zbm (.slice ob bks.length cap) bks 8 nm ot at_ va ep q.w' (by omega) (rb.of (Nat.le_refl _) q) hfm;rw [st.eq,href] at h;exact h
  have c0:=BelowOf.cell (v:=.int .i64 8) (za0 k0 0) (za2 k0);have c1:=BelowOf.cell (v:=.string nm) (za0 k0 1) (za2 k0);have c2:=BelowOf.cell (v:=.string ot) (za0 k0 2) (za2 k0);have c3:=BelowOf.cell (v:=.int .i64 at_) (za0 k0 3) (za2 k0);have c4:=BelowOf.cell (v:=.int .i64 va) (za0 k0 4) (za2 k0);have c5:=BelowOf.cell (v:=.int .i64 ep) (za0 k0 5) (za2 k0);have cB:=BelowOf.cell (v:=.slice ob bks.length cap) (st0.c2) (st0.lt)
  go_wp2_with fail
  refine zad (by kernel_rfl) (by kernel_rfl) ?_
  repeat (go_big_quiet_step ((first | (go_at_call 139;with_reducible exact zb1 (H1 _)) | rfl)))
  refine wpQuiet_nil ?_;intro w2 hw2;obtain ⟨⟨wx,cx⟩,hwx⟩:=hw2;have b2 : Below w1.heap.size w1 w2:=by rw [hwx];exact cx
  clear hwx cx wx hne c0 c1 c2 c3 c4 c5 cB H1 rb;replace k0:=kb0 b2 k0;replace k1:=kb0 b2 k1;replace st0:=st0.below b2;replace d0:=za1 d0 b2;clear b2;have hne:=BelowOf.any w2;have rb : ReadsR 5 bookC w2.heap.size w2 (.slice ob bks.length cap) bks:=ReadsR.of_own zae st0.books.row
  have H2 : ∀ q : BelowOf w2,Calls Tryz.prog 140 #[.slice ob bks.length cap,.string nm] q.w' fun e w'=>e = .returned (.int .i64 i)/\w'=q.w':=fun q=>by
    have h:=zap (.slice ob bks.length cap) bks nm q.w' (rb.of (Nat.le_refl _) q);rw [hfb] at h;exact h
  have c1:=BelowOf.cell (v:=.string nm) (za0 k0 1) (za2 k0);have cB:=BelowOf.cell (v:=.slice ob bks.length cap) (st0.c2) (st0.lt)
  go_wp2_with fail
  refine zad (by kernel_rfl) (by kernel_rfl) ?_
  repeat (go_big_quiet_step ((first | (go_at_call 140;with_reducible exact zbw (H2 _)) | rfl)))
  refine wpQuiet_nil ?_;intro w3 hw3;obtain ⟨⟨wx,cx⟩,hwx⟩:=hw3;have b3 : Below w2.heap.size w2 w3:=by rw [hwx];exact cx
  clear hwx cx wx hne c1 cB H2 rb;replace k0:=kb0 b3 k0;replace k1:=kb0 b3 k1;replace st0:=st0.below b3;replace d0:=za1 d0 b3;clear b3;obtain ⟨g,hob⟩:=zdn st0.books.row (by omega);subst hob;obtain ⟨⟨a0,a1,a2,a3,a4⟩,e0,e1,e2,e3,e4⟩:=zaz st0.books.row i hi;have rm : ReadsR 3 zak w3.heap.size w3 bks[i].m bks[i].rs:=ReadsR.of_own zat (st0.books.maps _ (List.getElem_mem hi));rw [hat] at hmap HD hbp h5
  obtain ⟨x,hx⟩ : ∃ x,bks[i]=x:=⟨_,rfl⟩
  have HX : Hid (bks[i]=x):=hx;rw [hx] at a0 a1 a2 a3 a4 rm hmap HD hbp h5;clear hx;obtain ⟨xn,xz,xm,rs,xf,xe⟩:=x;simp only [Bk.pb] at a0 a1 a2 a3 a4 rm hmap HD hbp h5;obtain ⟨mo,mc,hmf⟩:=rm.form;subst hmf;have HMP : Hid _:=hmap;have hpl:=zac rs;have pB:=st0.c2;have p0:=za0 k0 0;have p3:=za0 k0 3;have i0 : (0 : Int)<=(i : Int):=by omega
  have i1 : (i : Int) < (bks.length : Int):=by omega
  obtain ⟨a,haa⟩:=Int.eq_ofNat_of_zero_le ha16.1;subst haa;clear hmap e0 e1 e2 e3 e4 a0 a1 a3 a4 hat hbk hfp hfb
  go_wp2_with fail
  refine (zco _ rs _ HMP.out rm).mono ?_;rintro e w4 ⟨gp,cp,rfl,ownp,b4⟩;replace k0:=kb0 b4 k0;replace k1:=kb0 b4 k1;have stP:=st0.pool;replace st0:=st0.below b4;replace d0:=za1 d0 b4;have hpa : a < (za7 rs).length:=by rw [hpl];omega
  have cA:=(ownp.cellAt a (by omega)).trans (getD_some (za7 rs) a hpa);have a0' : (0 : Int)<=(a : Int):=by omega
  have a1' : (a : Int) < 16:=by omega
  clear b4 rm pB p0 p3 a2;rw [Int.toNat_natCast] at HD
  obtain ⟨page,hpage⟩ : ∃ page,(za7 rs).getD a 0=page:=⟨_,rfl⟩
  rw [hpage] at cA HD;clear hpage;have p0:=za0 k0 0;have p3:=za0 k0 3;have hw1 : IntKind.i64.wrap (xe+1)=xe+1:=by rw [IntKind.wrap_i64];omega
  obtain ⟨⟨-,-,-,-,a4⟩,-,-,-,-,e4⟩:=zaz st0.books.row i hi;rw [HX.out] at a4;simp only at a4;obtain ⟨st5,b5⟩:=st0.put i 4 hi (by decide) ⟨xn,xz,.slice mo rs.length mc,rs,xf,xe+1⟩ (.int .i64 (xe+1)) (by rw [HX.out];rfl) (by have h:=st0.books.maps bks[i] (List.getElem_mem hi);rw [HX.out] at h;exact h);have hgn : ¬ g=w.heap.size+1:=fun e=>zaa st0.books.row k1 (by decide) (by rw [<- e];rfl)
  have hgn' : ¬ w.heap.size+1=g:=fun e=>hgn e.symm
  have k5:=(Below.heap_setCell w4 ⟨g,i * 5+4,none⟩ (.int .i64 (xe+1)) (w.heap.size+1) hgn').trans k1;have HS : Hid _:=zcb (HD.out.trans (zys s nm ot (a : Int) va ep i _ page)) (Nat.le_succ_of_le hbase) (HGG.out _ (by omega)) k5 st5 ((zdu hbase d0).trans b5);obtain ⟨q0,q1⟩:=cq2 k1;obtain ⟨f0,f1⟩:=oq2 k1;clear k0 k1 k5 st0 st5 b5 d0 st HD
  go_wp2_with fail
  exact bodyPost_ret (v:=.agg #[.int .i64 0,.int .i64 (xe+1)]) (by simp [results,Tryz.results86,go_sem,za0 HS.out.1]) rfl HS.out.2
theorem zxf (G : Nat->Prop) (C : Array Value) (T : TypeId) (off base b : Nat) (v1 v2 vb : Value) (bks : List Bk) (s : Sf) (nm ot : ByteArray) (at_ va ep : Int) (w : World) (hn : nm.size<=maxLen) (ho : ot.size<=maxLen) (inv : ShInv s) (st : ShSg G C T off base b w v1 v2 vb bks s) (hok : opOk ⟨9,nm,ot,at_,va,ep⟩=true) (href : za5 s.bs ⟨9,nm,ot,at_,va,ep⟩=0) :
    Calls Tryz.prog 86 #[.pointer (some ⟨b,off,none⟩),.agg #[.int .i64 9,.string nm,.string ot,.int .i64 at_,.int .i64 va,.int .i64 ep]] w (DoPostG G C T off base b v1 v2 s ⟨9,nm,ot,at_,va,ep⟩ w):=by
  obtain ⟨i,hi,hib,hfp,hfb,hat,hbk⟩:=zgu (o:=⟨9,nm,ot,at_,va,ep⟩) st href (show (9 : Int) ≠ 1 by decide);have ha16:=zjq inv hok href (show (9 : Int) ≠ 1 by decide);simp only at hfp hfb hbk ha16;have hmap:=(zaw (inv.oks _ (List.getElem_mem hib))).2.2.2.1;have HD : Hid (doOp s ⟨9,nm,ot,at_,va,ep⟩=doKind s ⟨9,nm,ot,at_,va,ep⟩ i s.bs[i] ((za7 s.bs[i].rs).getD at_.toNat 0)):=zig hok href (show (9 : Int) ≠ 1/\(9 : Int) ≠ 6/\kOther 9=false by decide) hfp hbk ha16.2;obtain ⟨ob,cap,hvf⟩:=za4 st.books.row;subst hvf;have hbase : base<=w.heap.size:=st.hbase;have HGG : Hid (∀ k,w.heap.size<=k->¬ G k):=fun k hk q=>by have:=st.gl k q;omega
  have HTY : Hid (HoldsSh T):=st.hT;have hfew : bks.length<=6:=by rw [st.len];exact inv.few
  obtain ⟨W0,hW0,k0,k1,d0,z0⟩:=zc7 w #[.int .i64 9,.string nm,.string ot,.int .i64 at_,.int .i64 va,.int .i64 ep] #[.int .i64 0,.int .i64 0] 37 43;have HW0 : Hid (W0 = _):=hW0;have st0:=st.below d0;clear hW0 z0
  go_enter Tryz.func86,Tryz.ntmps86
  go_wp2_with fail
  rw [<- HW0.out];clear HW0;refine (zbl 9 nm ot at_ va ep _ hn ho).mono ?_;rintro e w1 ⟨rfl,b1⟩;rw [hok];replace k0:=kb0 b1 k0;replace k1:=kb0 b1 k1;replace st0:=st0.below b1;replace d0:=za1 d0 b1;clear b1;have hne:=BelowOf.any w1;have rb : ReadsR 5 bookC w1.heap.size w1 (.slice ob bks.length cap) bks:=ReadsR.of_own zae st0.books.row;have hfm:=st0.forms
  have H1 : ∀ q : BelowOf w1,Calls Tryz.prog 139 #[.slice ob bks.length cap,.agg #[.int .i64 9,.string nm,.string ot,.int .i64 at_,.int .i64 va,.int .i64 ep]] q.w' fun e w'=>e = .returned (.int .i64 0)/\Below q.w'.heap.size q.w' w':=fun q=>by
    have h:=zbm (.slice ob bks.length cap) bks 9 nm ot at_ va ep q.w' (by omega) (rb.of (Nat.le_refl _) q) hfm;rw [st.eq,href] at h;exact h
  have c0:=BelowOf.cell (v:=.int .i64 9) (za0 k0 0) (za2 k0);have c1:=BelowOf.cell (v:=.string nm) (za0 k0 1) (za2 k0);have c2:=BelowOf.cell (v:=.string ot) (za0 k0 2) (za2 k0);have c3:=BelowOf.cell (v:=.int .i64 at_) (za0 k0 3) (za2 k0);have c4:=BelowOf.cell (v:=.int .i64 va) (za0 k0 4) (za2 k0);have c5:=BelowOf.cell (v:=.int .i64 ep) (za0 k0 5) (za2 k0);have cB:=BelowOf.cell (v:=.slice ob bks.length cap) (st0.c2) (st0.lt)
  go_wp2_with fail
  refine zad (by kernel_rfl) (by kernel_rfl) ?_
  repeat (go_big_quiet_step ((first | (go_at_call 139;with_reducible exact zb1 (H1 _)) | rfl)))
  refine wpQuiet_nil ?_;intro w2 hw2;obtain ⟨⟨wx,cx⟩,hwx⟩:=hw2;have b2 : Below w1.heap.size w1 w2:=by rw [hwx];exact cx
  clear hwx cx wx hne c0 c1 c2 c3 c4 c5 cB H1 rb;replace k0:=kb0 b2 k0;replace k1:=kb0 b2 k1;replace st0:=st0.below b2;replace d0:=za1 d0 b2;clear b2;have hne:=BelowOf.any w2;have rb : ReadsR 5 bookC w2.heap.size w2 (.slice ob bks.length cap) bks:=ReadsR.of_own zae st0.books.row
  have H2 : ∀ q : BelowOf w2,Calls Tryz.prog 140 #[.slice ob bks.length cap,.string nm] q.w' fun e w'=>e = .returned (.int .i64 i)/\w'=q.w':=fun q=>by
    have h:=zap (.slice ob bks.length cap) bks nm q.w' (rb.of (Nat.le_refl _) q);rw [hfb] at h;exact h
  have c1:=BelowOf.cell (v:=.string nm) (za0 k0 1) (za2 k0);have cB:=BelowOf.cell (v:=.slice ob bks.length cap) (st0.c2) (st0.lt)
  go_wp2_with fail
  refine zad (by kernel_rfl) (by kernel_rfl) ?_
  repeat (go_big_quiet_step ((first | (go_at_call 140;with_reducible exact zbw (H2 _)) | rfl)))
  refine wpQuiet_nil ?_;intro w3 hw3;obtain ⟨⟨wx,cx⟩,hwx⟩:=hw3;have b3 : Below w2.heap.size w2 w3:=by rw [hwx];exact cx
  clear hwx cx wx hne c1 cB H2 rb;replace k0:=kb0 b3 k0;replace k1:=kb0 b3 k1;replace st0:=st0.below b3;replace d0:=za1 d0 b3;clear b3;obtain ⟨g,hob⟩:=zdn st0.books.row (by omega);subst hob;obtain ⟨⟨a0,a1,a2,a3,a4⟩,e0,e1,e2,e3,e4⟩:=zaz st0.books.row i hi;have rm : ReadsR 3 zak w3.heap.size w3 bks[i].m bks[i].rs:=ReadsR.of_own zat (st0.books.maps _ (List.getElem_mem hi));rw [hat] at hmap HD
  obtain ⟨x,hx⟩ : ∃ x,bks[i]=x:=⟨_,rfl⟩
  have HX : Hid (bks[i]=x):=hx;rw [hx] at a0 a1 a2 a3 a4 rm hmap HD;clear hx;obtain ⟨xn,xz,xm,rs,xf,xe⟩:=x;simp only [Bk.pb] at a0 a1 a2 a3 a4 rm hmap HD;obtain ⟨mo,mc,hmf⟩:=rm.form;subst hmf;have HMP : Hid _:=hmap;have hpl:=zac rs;have pB:=st0.c2;have p0:=za0 k0 0;have p3:=za0 k0 3;have i0 : (0 : Int)<=(i : Int):=by omega
  have i1 : (i : Int) < (bks.length : Int):=by omega
  obtain ⟨a,haa⟩:=Int.eq_ofNat_of_zero_le ha16.1;subst haa;clear hmap e0 e1 e2 e3 e4 a0 a1 a3 a4 hat hbk hfp hfb
  go_wp2_with fail
  refine (zco _ rs _ HMP.out rm).mono ?_;rintro e w4 ⟨gp,cp,rfl,ownp,b4⟩;replace k0:=kb0 b4 k0;replace k1:=kb0 b4 k1;have stP:=st0.pool;replace st0:=st0.below b4;replace d0:=za1 d0 b4;have hpa : a < (za7 rs).length:=by rw [hpl];omega
  have cA:=(ownp.cellAt a (by omega)).trans (getD_some (za7 rs) a hpa);have a0' : (0 : Int)<=(a : Int):=by omega
  have a1' : (a : Int) < 16:=by omega
  clear b4 rm pB p0 p3 a2;rw [Int.toNat_natCast] at HD;have hpr:=zbg rs HMP.out a (by omega);have HPGS : Hid _:=fun (h : 0<=(za7 rs).getD a 0)=>inv.page i hib ((za7 rs).getD a 0) (by rw [show s.bs[i].rs=rs by have h1:=st.eq;simp only [<- h1,List.getElem_map,HX.out,Bk.pb]];exact (zct _ hpl _).2 ⟨a,by omega,rfl⟩) h
  obtain ⟨page,hpage⟩ : ∃ page,(za7 rs).getD a 0=page:=⟨_,rfl⟩
  rw [hpage] at cA hpr HPGS HD;clear hpage;have p0:=za0 k0 0;have p3:=za0 k0 3;by_cases hpg : page < 0
  · have HS : Hid _:=zcb (show doOp s ⟨9,nm,ot,(a : Int),va,ep⟩=(s,(0,0)) by rw [HD.out,kind_9,if_pos hpg]) (Nat.le_succ_of_le hbase) (HGG.out _ (by omega)) k1 st0 (zdu hbase d0)
    obtain ⟨q0,q1⟩:=cq2 k1;obtain ⟨f0,f1⟩:=oq2 k1;clear k0 k1 st0 d0 st HD
    go_wp2_with fail
    exact bodyPost_ret (v:=.agg #[.int .i64 0,.int .i64 0]) (by simp [results,Tryz.results86,go_sem,za0 HS.out.1]) rfl HS.out.2
  · obtain ⟨kp,hkp⟩:=Int.eq_ofNat_of_zero_le (show 0<=page by omega)
    subst hkp;obtain ⟨hk1,hk2⟩:=HPGS.out (by omega);have hpp:=inv.cells.p;have HS : Hid _:=zcb (show doOp s ⟨9,nm,ot,(a : Int),va,ep⟩=(s,(0,s.ps.getD kp 0)) by rw [HD.out,kind_9,if_neg hpg,Int.toNat_natCast]) (Nat.le_succ_of_le hbase) (HGG.out _ (by omega)) k1 st0 (zdu hbase d0);have hkl : kp < s.ps.length:=by rw [hpp];omega
    obtain ⟨o2,c2,hv2⟩:=za4 st0.pool.p;have cP:=st0.pool.p;subst hv2;obtain ⟨g2,hg2⟩:=zi0 cP (by omega);subst hg2;have cV:=(cP.cellAt kp (by omega)).trans (getD_some s.ps kp hkl);have b1:=st0.c1;have j0 : (0 : Int)<=(kp : Int):=by omega
    have j1 : (kp : Int) < (s.ps.length : Int):=by omega
    obtain ⟨q0,q1⟩:=cq2 k1;obtain ⟨f0,f1⟩:=oq2 k1;clear k0 k1 st0 d0 st HD cP;generalize s.ps.getD kp 0=val at *
    go_wp2_with fail
    exact bodyPost_ret (v:=.agg #[.int .i64 0,.int .i64 val]) (by simp [results,Tryz.results86,go_sem,za0 HS.out.1]) rfl HS.out.2
end Go.Proofs.YtfkkapdofjhgpaaGreatDoor
