import Derived.Laws.Cover1
import Derived.Deep.CutBlock
import Derived.Deep.DeepCutAuto
import Derived.Test.YtfkkapdofjhgpaaGreatDoorM08
import Derived.Test.YtfkkapdofjhgpaaGreatDoorM12
set_option maxHeartbeats 12800000
namespace Go.Proofs.YtfkkapdofjhgpaaGreatDoor
open Go.RowKit
set_option linter.unusedVariables false
set_option maxRecDepth 100000
theorem zba {G : Nat->Prop} {C : Array Value} {T U : TypeId} {off base b n : Nat} {wx X : World} {v1 v2 vb x0 x1 x2 x3 x4 : Value} {bks : List Bk} {s : Sf} (bX : Below wx.heap.size wx X) (st : ShSg G C T off base b wx v1 v2 vb bks s) (k : wx.heap[n]? = some (.cells #[x0,x1,x2,x3,x4] U (0,0))) :
    X.cell? ⟨b,off+2,none⟩=some vb/\X.frozen? ⟨b,off+2,none⟩=false/\X.cell? ⟨n,0,none⟩=some x0/\X.cell? ⟨n,1,none⟩=some x1/\X.cell? ⟨n,2,none⟩=some x2/\X.cell? ⟨n,3,none⟩=some x3/\X.cell? ⟨n,4,none⟩=some x4:=by
  have h1:=st.below bX;have h2:=kb0 bX k;exact ⟨h1.c2,h1.f2,za0 h2 0,za0 h2 1,za0 h2 2,za0 h2 3,za0 h2 4⟩
theorem zmf (G : Nat->Prop) (C : Array Value) (T : TypeId) (off base b g cap : Nat) (v1 v2 : Value) (bks : List Bk) (s : Sf) (x : Bk) (w : World) (st : ShSg G C T off base b w v1 v2 (.slice (some ⟨g,0,none⟩) bks.length cap) bks s) (hn : bks.length<=6) (hm : w.ownsRow base 172 3 x.m x.rs.length (x.rs.flatMap zak)) :
    Calls Tryz.prog 141 #[.pointer (some ⟨b,off,none⟩),.agg #[.string x.nm,.int .i64 x.sz,x.m,.bool x.fx,.int .i64 x.ep]] w fun e w'=>∃ (vb' : Value) (bks' : List Bk),e = .returned (.tuple #[])/\ShSg G C T off base b w' v1 v2 vb' bks' ⟨s.cs,s.ps,insertP s.bs x.pb⟩/\Only (fun i=>i=b) w w':=by
  obtain ⟨i0,hi,hz0,hz1,hz2⟩:=info_parts Tryz.infoBook;obtain ⟨xn,xz,xm,xr,xf,xe⟩:=x;obtain ⟨mo,mc,hmf⟩:=za4 hm;simp only at hmf hm;subst hmf;obtain ⟨W0,hW0,k0,d0,z0⟩:=zb4 w #[.string xn,.int .i64 xz,.slice mo xr.length mc,.bool xf,.int .i64 xe] 117;have HW0 : Hid (W0 = _):=hW0;have hbase : base<=w.heap.size:=st.hbase;have st0:=st.below d0;have hm0:=za9 hm d0;have hcap:=st.books.row;have l0:=za2 k0;clear hW0 hm
  obtain ⟨bs,hbs⟩ : ∃ bs,bks.map Bk.pb=bs:=⟨_,rfl⟩
  have hbs' : s.bs=bs:=by rw [<- st.eq,hbs]
  have HBL : Hid (bs.length=bks.length):=by rw [Hid,<- hbs,List.length_map]
  have HAT : Hid (∀ (j : Nat) (h1 : j < bks.length) (h2 : j < bs.length),bs[j].nm=bks[j].nm):=fun j h1 h2=>by subst hbs;simp [Bk.pb]
  simp only
  go_enter Tryz.func141,Tryz.ntmps141
  go_upto_block 0 with fail
  rw [<- HW0.out];clear HW0
  go_cut [4] (fun i wr=>i = .int .i64 (zbp bs xn : Nat)/\Below W0.heap.size W0 wr)
  case first =>
    go_wp2_with fail
    go_loopw [4] (fun i wr=>∃ q : Nat,q<=bks.length/\i = .int .i64 q/\(∀ j (hj : j < bs.length),j < q->ltB bs[j].nm xn=true)/\Below W0.heap.size W0 wr) (fun i _=>bks.length - (intOf i).toNat)
    case atStart=>exact ⟨0,Nat.zero_le _,rfl,fun j _ hj=>by omega,Below.refl _ _⟩
    case round =>
      obtain ⟨q,hq,rfl,hlt,hb⟩:=hrel;have HL : Hid _:=hlt;have st1:=st0.below hb;have k1:=(hb.block _ l0).trans k0;have pB:=st1.c2;have pN:=za0 k1 0;clear hlt;by_cases hql : q < bks.length
      · have i0' : (0 : Int)<=(q : Int):=by omega
        have i1' : (q : Int) < (bks.length : Int):=by omega
        have id : decide ((q : Int) < (bks.length : Int))=true:=decide_eq_true i1';have id2 : decide (q < bks.length)=true:=decide_eq_true hql;obtain ⟨⟨a0,-,-,-,-⟩,-⟩:=zaz st1.books.row q hql;have HA : Hid _:=HAT.out q hql (by have:=HBL.out;omega);generalize bks[q].nm=qn at a0 HA
        obtain ⟨ly,hly⟩ : ∃ y,Op.bytesLess qn.toList xn.toList=y:=⟨_,rfl⟩
        have HLY : Hid (ltB qn xn=ly):=hly;cases ly
        · have HQ0 : Hid (zbp bs xn=q):=zgt bs xn q (by have:=HBL.out;omega) HL.out (fun h=>by rw [HA.out];exact HLY.out)
          clear st1 k1
          go_wp2_with fail
          go_quiet (fail)
          go_wp2_with fail
          go_meet
          exact ⟨by rw [HQ0.out],⟨hb.os,hb.tape,hb.output,hb.size,hb.block⟩⟩
        · have HL2 : Hid (∀ j (hj : j < bs.length),j < q+1->ltB bs[j].nm xn=true):=fun j hj h=>by
            rcases Nat.lt_or_ge j q with r | r
            · exact HL.out j hj r
            · obtain rfl : j=q:=by omega
              rw [HA.out];exact HLY.out
          clear st1 k1
          go_wp2_with fail
          go_quiet (fail)
          go_wp2_with fail
          go_roundw
          case rel=>exact ⟨q+1,by omega,by go_num,HL2.out,⟨hb.os,hb.tape,hb.output,hb.size,hb.block⟩⟩
          case measure=>simp [intOf];omega
      · have id : decide ((q : Int) < (bks.length : Int))=false:=decide_eq_false (by omega)
        have id2 : decide (q < bks.length)=false:=decide_eq_false hql;have HQ0 : Hid (zbp bs xn=q):=zgt bs xn q (by have:=HBL.out;omega) HL.out (fun h=>by have:=HBL.out;omega);clear st1 k1
        go_wp2_with fail
        go_quiet (fail)
        go_wp2_with fail
        go_meet
        exact ⟨by rw [HQ0.out],⟨hb.os,hb.tape,hb.output,hb.size,hb.block⟩⟩
  case rest =>
    obtain ⟨rfl,hb⟩:=hcut;have hq : zbp bs xn<=bks.length:=by have:=zpb bs xn;have:=HBL.out;omega
    have HINS : Hid (insertP s.bs ⟨xn,xz,xr,xf,xe⟩=(bks.take (zbp bs xn) ++ [(⟨xn,xz,.slice mo xr.length mc,xr,xf,xe⟩ : Bk)] ++ bks.drop (zbp bs xn)).map Bk.pb):=by
      rw [Hid,hbs',insertP,<- hbs,List.map_append,List.map_append,List.map_take,List.map_drop]
      rfl
    clear HAT HBL;generalize zbp bs xn=q at *;generalize wc=wy at *;have st1:=st0.below hb;have k1:=(hb.block _ l0).trans k0;have hm1:=za9 hm0 hb;have d1:=za1 d0 hb
    have hcl : bks.length<=cap:=by
      rcases st1.books.row.2 with ⟨e,_⟩ | ⟨g',cap',cur,e,_,hh,h1,_⟩
      · simp at e
      · simp only [Value.slice.injEq,Option.some.injEq,Addr.mk.injEq,and_true,true_and] at e
        omega
    have rr : ReadsR 5 bookC wy.heap.size wy (.slice (some ⟨g,0,none⟩) bks.length cap) bks:=ReadsR.of_own zae st1.books.row;have hfm:=st1.forms;have HD : Hid (∀ u ∈ (bks.drop q).flatMap bookC,u.oneCell'=true):=ze6 _ (fun b hb=>hfm b (List.mem_of_mem_drop hb));have HT : Hid (∀ u ∈ (bks.take q).flatMap bookC,u.oneCell'=true):=ze6 _ (fun b hb=>hfm b (List.mem_of_mem_take hb));have HDL : Hid (((bks.drop q).flatMap bookC).length=(bks.length - q) * 5):=by rw [Hid,zbb zae,List.length_drop]
    have HTL : Hid (((bks.take q).flatMap bookC).length=q * 5):=by rw [Hid,zbb zae,List.length_take,Nat.min_eq_left hq]
    clear st0 k0 hm0 d0 hb z0 l0 hfm st hcap hbs hbs'
    go_upto_region 4 with fail
    go_cut [5] (fun v wx=>wx.ownsRow wy.heap.size 117 5 v (bks.length - q) ((bks.drop q).flatMap bookC)/\v ≠ .slice none 0 0/\Below wy.heap.size wy wx)
    case first =>
      have own0:=zcf wy;have rd : ReadsR 5 bookC (wy.alloc (.cells #[] 117)).heap.size (wy.alloc (.cells #[] 117)) (.slice (some ⟨g,0,none⟩) bks.length cap) bks:=(rr.below (za3 (Below.refl _ _))).mono (by simp);have pB:=(Below.cell (za3 (o:=.cells #[] 117) (Below.refl wy.heap.size wy)) (p:=⟨b,off+2,none⟩) (st1.lt)).trans (st1.c2);have j0 : (0 : Int)<=(q : Int):=by omega
      have j1 : (q : Int)<=(bks.length : Int):=by omega
      have j2 : (q : Int)<=(cap : Int):=by omega
      have HM : Hid (0+(bks.length - q)<=maxLen):=by rw [Hid];unfold maxLen;omega
      have HBY : Hid ((0+(bks.length - q)) * 64<=140737488355328):=by rw [Hid];omega
      have HSZ : Hid (wy.heap.size<=(wy.alloc (.cells #[] 117)).heap.size):=by rw [Hid];simp
      by_cases hqc : cap=q
      · have hql : bks.length=q:=by omega
        have hdr : (bks.drop q).flatMap bookC = []:=by rw [List.drop_of_length_le (by omega)];rfl
        have HF : Hid ((wy.alloc (.cells #[] 117)).ownsRow wy.heap.size 117 5 (.slice (some ⟨wy.heap.size,0,none⟩) 0 0) (bks.length - q) ((bks.drop q).flatMap bookC)/\Value.slice (some ⟨wy.heap.size,0,none⟩) 0 0 ≠ .slice none 0 0/\Below wy.heap.size wy (wy.alloc (.cells #[] 117))):=by
          rw [Hid,hdr,hql,Nat.sub_self];exact ⟨own0,by simp,za3 (Below.refl _ _)⟩
        clear hdr HDL rd own0 HD HT HTL
        go_wp2_with fail
        go_meet
        exact HF.out
      · have rd2:=rd.drop q hq
        rw [Nat.zero_add] at rd2;have HSRC : Hid _:=zd4 zae (by decide) rd2;clear rd2
        go_wp2_with (at_builtin;refine zb5 rfl _ _ 28 rfl wy.heap.size 117 i0 (.agg #[.string ByteArray.empty,.int .i64 0,.slice none 0 0,.bool false,.int .i64 0]) 5 64 Tryz.underlying28 hi hz0 hz1 hz2 rfl (by decide) (.slice (some ⟨wy.heap.size,0,none⟩) 0 0) 0 [] rfl own0 (some ⟨g,q * 5,none⟩) (bks.length - q) (cap - q) ((bks.drop q).flatMap bookC) rfl HDL.out HSRC.out HD.out HM.out HBY.out HSZ.out ?_)
        intro v' w3 hown hgrow hnil;have hown2 : w3.ownsRow wy.heap.size 117 5 v' (bks.length - q) ((bks.drop q).flatMap bookC):=by simpa using hown
        have hb3 : Below wy.heap.size wy w3:=(za3 (Below.refl _ _)).grown hgrow (by simp) (fun z hz=>(own0.lt z hz).1)
        have HF : Hid (w3.ownsRow wy.heap.size 117 5 v' (bks.length - q) ((bks.drop q).flatMap bookC)/\v' ≠ .slice none 0 0/\Below wy.heap.size wy w3):=⟨hown2,hnil,hb3⟩
        clear hown hgrow hnil hown2 hb3 own0 rd pB HSRC
        go_wp2_with fail
        go_meet
        exact HF.out
    case rest =>
      obtain ⟨own6,hn6,b6⟩:=hcut;generalize wc=wx at *;have st2:=st1.below b6;have k2:=kb0 b6 k1;have d2:=za1 d1 b6;have hm2:=za9 hm1 b6;have rT:=((rr.take q hq).below b6).mono b6.size;obtain ⟨e0b,e0f,e00,e01,e02,e03,e04⟩:=zba (X:=wx.drew) ((Below.refl _ _).drew) st2 k2;obtain ⟨e1b,e1f,e10,e11,e12,e13,e14⟩:=zba (X:=(wx.alloc (.cells #[] 117)).drew) ((za3 (Below.refl _ _)).drew) st2 k2;obtain ⟨e2b,e2f,e20,e21,e22,e23,e24⟩:=zba (X:=(wx.alloc (.cells #[.string xn,.int .i64 xz,.slice mo xr.length mc,.bool xf,.int .i64 xe] 117)).drew) ((za3 (Below.refl _ _)).drew) st2 k2;obtain ⟨e3b,e3f,e30,e31,e32,e33,e34⟩:=zba (X:=((wx.alloc (.cells #[] 117)).alloc (.cells #[.string xn,.int .i64 xz,.slice mo xr.length mc,.bool xf,.int .i64 xe] 117)).drew) ((za3 (za3 (Below.refl _ _))).drew) st2 k2;obtain ⟨e4b,e4f,e40,e41,e42,e43,e44⟩:=zba (X:=((wx.alloc (.cells #[.string xn,.int .i64 xz,.slice mo xr.length mc,.bool xf,.int .i64 xe] 117)).alloc (.cells #[] 117)).drew) ((za3 (za3 (Below.refl _ _))).drew) st2 k2;have j0 : (0 : Int)<=(q : Int):=by omega
      have j1 : (q : Int)<=(bks.length : Int):=by omega
      have j2 : (q : Int)<=(cap : Int):=by omega
      obtain ⟨o6,c6,hv6⟩:=za4 own6;subst hv6;have HS1 : Hid (∀ X : World,Below wx.heap.size wx X->∀ j u,((bks.take q).flatMap bookC)[j]? = some u->∃ g' off',some (⟨g,0,none⟩ : Addr)=some ⟨g',off',none⟩/\X.cell? ⟨g',off'+j,none⟩=some u):=fun X bX=>zd4 zae (by decide) (rT.below bX)
      have r6 : ReadsR 5 bookC wx.heap.size wx (.slice o6 (bks.length - q) c6) (bks.drop q):=ReadsR.of_own zae (by rw [List.length_drop];exact own6);have HS3 : Hid (∀ X : World,Below wx.heap.size wx X->∀ j u,((bks.drop q).flatMap bookC)[j]? = some u->∃ g' off',o6=some ⟨g',off',none⟩/\X.cell? ⟨g',off'+j,none⟩=some u):=fun X bX=>zd4 zae (by decide) (r6.below bX)
      have HX1 : Hid (∀ u ∈ ([.string xn,.int .i64 xz,.slice mo xr.length mc,.bool xf,.int .i64 xe] : List Value),u.oneCell'=true):=zgs ⟨xn,xz,.slice mo xr.length mc,xr,xf,xe⟩ ⟨_,_,_,rfl⟩;have HM1 : Hid (0+q<=maxLen):=by rw [Hid];unfold maxLen;omega
      have HB1 : Hid ((0+q) * 64<=140737488355328):=by rw [Hid];omega
      have HM2 : Hid (0+q+1<=maxLen):=by rw [Hid];unfold maxLen;omega
      have HB2 : Hid ((0+q+1) * 64<=140737488355328):=by rw [Hid];omega
      have HM3 : Hid (0+q+1+(bks.length - q)<=maxLen):=by rw [Hid];unfold maxLen;omega
      have HB3 : Hid ((0+q+1+(bks.length - q)) * 64<=140737488355328):=by rw [Hid];omega
      have HBX1 : Hid (((wx.alloc (.cells #[] 117)).alloc (.cells #[.string xn,.int .i64 xz,.slice mo xr.length mc,.bool xf,.int .i64 xe] 117)).heap[wx.heap.size+1]? = some (.cells #[.string xn,.int .i64 xz,.slice mo xr.length mc,.bool xf,.int .i64 xe] 117 (0,0))):=by
        obtain ⟨W,hW,-,h,-⟩:=zc7 wx #[] #[.string xn,.int .i64 xz,.slice mo xr.length mc,.bool xf,.int .i64 xe] 117 117;rw [hW] at h;exact h
      have HBX2 : Hid (((wx.alloc (.cells #[.string xn,.int .i64 xz,.slice mo xr.length mc,.bool xf,.int .i64 xe] 117)).alloc (.cells #[] 117)).heap[wx.heap.size]? = some (.cells #[.string xn,.int .i64 xz,.slice mo xr.length mc,.bool xf,.int .i64 xe] 117 (0,0))):=by
        obtain ⟨W,hW,h,-⟩:=zc7 wx #[.string xn,.int .i64 xz,.slice mo xr.length mc,.bool xf,.int .i64 xe] #[] 117 117;rw [hW] at h;exact h
      go_wp2_with fail
      go_region_law (first
        | (refine zan rfl (.tmp 37) (.tmp 43) 28 rfl wx.heap.size 117 i0 (.agg #[.string ByteArray.empty,.int .i64 0,.slice none 0 0,.bool false,.int .i64 0]) 5 64 Tryz.underlying28 hi hz0 hz1 hz2 rfl (by decide) (.slice (some ⟨wx.heap.size,0,none⟩) 0 0) 0 [] ?e1 ?own (some ⟨g,0,none⟩) q cap ((bks.take q).flatMap bookC) ?e2 HTL.out ?hn HT.out HM1.out HB1.out ?hbase ?_
           case e1=>first | rfl | simp [Act.eval]
           case e2=>first | rfl | simp [Act.eval]
           case own=>exact zcf wx
           case hn=>exact HS1.out _ (za3 (Below.refl _ _)).drew
           case hbase=>simp <;> omega
           intro va wa owna growa nila;have ba : Below wx.heap.size wx wa:=((za3 (Below.refl _ _)).drew).grown growa (by simp <;> omega) (fun z hz=>by simp [Value.ownBlock] at hz;omega);obtain ⟨eab,eaf,ea0,ea1,ea2,ea3,ea4⟩:=zba (X:=wa) ba st2 k2
           skip)
        | (refine zan rfl (.tmp 37) (.tmp 43) 28 rfl wx.heap.size 117 i0 (.agg #[.string ByteArray.empty,.int .i64 0,.slice none 0 0,.bool false,.int .i64 0]) 5 64 Tryz.underlying28 hi hz0 hz1 hz2 rfl (by decide) (.slice (some ⟨wx.heap.size,0,none⟩) 0 0) 0 [] ?e1 ?own (some ⟨g,0,none⟩) q cap ((bks.take q).flatMap bookC) ?e2 HTL.out ?hn HT.out HM1.out HB1.out ?hbase ?_
           case e1=>first | rfl | simp [Act.eval]
           case e2=>first | rfl | simp [Act.eval]
           case own=>exact (zcf wx).alloc (.cells #[.string xn,.int .i64 xz,.slice mo xr.length mc,.bool xf,.int .i64 xe] 117)
           case hn=>exact HS1.out _ (za3 (za3 (Below.refl _ _))).drew
           case hbase=>simp <;> omega
           intro va wa owna growa nila;have ba : Below wx.heap.size wx wa:=((za3 (za3 (Below.refl _ _))).drew).grown growa (by simp <;> omega) (fun z hz=>by simp [Value.ownBlock] at hz;omega);obtain ⟨eab,eaf,ea0,ea1,ea2,ea3,ea4⟩:=zba (X:=wa) ba st2 k2
           have kbx:=(growa.block (wx.heap.size+1) (by simp <;> omega) (by simp [Value.ownBlock])).trans HBX1.out)
        | (refine zan rfl (.tmp 37) (.tmp 43) 28 rfl wx.heap.size 117 i0 (.agg #[.string ByteArray.empty,.int .i64 0,.slice none 0 0,.bool false,.int .i64 0]) 5 64 Tryz.underlying28 hi hz0 hz1 hz2 rfl (by decide) (.slice (some ⟨wx.heap.size+1,0,none⟩) 0 0) 0 [] ?e1 ?own (some ⟨g,0,none⟩) q cap ((bks.take q).flatMap bookC) ?e2 HTL.out ?hn HT.out HM1.out HB1.out ?hbase ?_
           case e1=>first | rfl | simp [Act.eval]
           case e2=>first | rfl | simp [Act.eval]
           case own=>exact (by have h:=zcf (wx.alloc (.cells #[.string xn,.int .i64 xz,.slice mo xr.length mc,.bool xf,.int .i64 xe] 117));rw [show (wx.alloc (.cells #[.string xn,.int .i64 xz,.slice mo xr.length mc,.bool xf,.int .i64 xe] 117)).heap.size=wx.heap.size+1 by simp] at h;exact zah h (by omega))
           case hn=>exact HS1.out _ (za3 (za3 (Below.refl _ _))).drew
           case hbase=>simp <;> omega
           intro va wa owna growa nila;have ba : Below wx.heap.size wx wa:=((za3 (za3 (Below.refl _ _))).drew).grown growa (by simp <;> omega) (fun z hz=>by simp [Value.ownBlock] at hz;omega);obtain ⟨eab,eaf,ea0,ea1,ea2,ea3,ea4⟩:=zba (X:=wa) ba st2 k2
           have kbx:=(growa.block wx.heap.size (by simp <;> omega) (by simp [Value.ownBlock])).trans (HBX2.out))
        | (refine zan rfl (.tmp 44) (.tmp 46) 28 rfl wx.heap.size 117 i0 (.agg #[.string ByteArray.empty,.int .i64 0,.slice none 0 0,.bool false,.int .i64 0]) 5 64 Tryz.underlying28 hi hz0 hz1 hz2 rfl (by decide) va (0+q) ([] ++ (bks.take q).flatMap bookC) ?e1 (owna.alloc _) (some ⟨wa.heap.size,0,none⟩) 1 1 [.string xn,.int .i64 xz,.slice mo xr.length mc,.bool xf,.int .i64 xe] ?e2 rfl ?hn HX1.out HM2.out HB2.out ?hbase ?_
           case e1=>first | rfl | simp [Act.eval]
           case e2=>first | rfl | simp [Act.eval]
           case hn=>exact zgv (zo2 wa _ _)
           case hbase=>have:=ba.size;simp <;> omega
           intro vc wcc ownc growc nilc;have bc : Below wx.heap.size wx wcc:=(za3 ba).grown growc (by have:=ba.size;simp <;> omega) (fun z hz=>(owna.lt z hz).1)
           obtain ⟨ecb,ecf,ec0,ec1,ec2,ec3,ec4⟩:=zba (X:=wcc) bc st2 k2)
        | (refine zan rfl (.tmp 44) (.tmp 46) 28 rfl wx.heap.size 117 i0 (.agg #[.string ByteArray.empty,.int .i64 0,.slice none 0 0,.bool false,.int .i64 0]) 5 64 Tryz.underlying28 hi hz0 hz1 hz2 rfl (by decide) va (0+q) ([] ++ (bks.take q).flatMap bookC) ?e1 owna (some ⟨wx.heap.size+1,0,none⟩) 1 1 [.string xn,.int .i64 xz,.slice mo xr.length mc,.bool xf,.int .i64 xe] ?e2 rfl ?hn HX1.out HM2.out HB2.out ?hbase ?_
           case e1=>first | rfl | simp [Act.eval]
           case e2=>first | rfl | simp [Act.eval]
           case hn=>exact zgv kbx
           case hbase=>have:=ba.size;simp <;> omega
           intro vc wcc ownc growc nilc;have bc : Below wx.heap.size wx wcc:=(ba).grown growc (by have:=ba.size;simp <;> omega) (fun z hz=>(owna.lt z hz).1)
           obtain ⟨ecb,ecf,ec0,ec1,ec2,ec3,ec4⟩:=zba (X:=wcc) bc st2 k2)
        | (refine zan rfl (.tmp 44) (.tmp 46) 28 rfl wx.heap.size 117 i0 (.agg #[.string ByteArray.empty,.int .i64 0,.slice none 0 0,.bool false,.int .i64 0]) 5 64 Tryz.underlying28 hi hz0 hz1 hz2 rfl (by decide) va (0+q) ([] ++ (bks.take q).flatMap bookC) ?e1 owna (some ⟨wx.heap.size,0,none⟩) 1 1 [.string xn,.int .i64 xz,.slice mo xr.length mc,.bool xf,.int .i64 xe] ?e2 rfl ?hn HX1.out HM2.out HB2.out ?hbase ?_
           case e1=>first | rfl | simp [Act.eval]
           case e2=>first | rfl | simp [Act.eval]
           case hn=>exact zgv kbx
           case hbase=>have:=ba.size;simp <;> omega
           intro vc wcc ownc growc nilc;have bc : Below wx.heap.size wx wcc:=(ba).grown growc (by have:=ba.size;simp <;> omega) (fun z hz=>(owna.lt z hz).1)
           obtain ⟨ecb,ecf,ec0,ec1,ec2,ec3,ec4⟩:=zba (X:=wcc) bc st2 k2)
        | (refine zan rfl (.tmp 47) (.tmp 48) 28 rfl wx.heap.size 117 i0 (.agg #[.string ByteArray.empty,.int .i64 0,.slice none 0 0,.bool false,.int .i64 0]) 5 64 Tryz.underlying28 hi hz0 hz1 hz2 rfl (by decide) vc (0+q+1) ([] ++ (bks.take q).flatMap bookC ++ [.string xn,.int .i64 xz,.slice mo xr.length mc,.bool xf,.int .i64 xe]) ?e1 ownc o6 (bks.length - q) c6 ((bks.drop q).flatMap bookC) ?e2 HDL.out (HS3.out _ bc) HD.out HM3.out HB3.out ?hbase ?_
           case e1=>first | rfl | simp [Act.eval]
           case e2=>first | rfl | simp [Act.eval]
           case hbase=>have:=bc.size;omega
           intro vd wd ownd growd nild;obtain ⟨od,cd,hvd⟩:=za4 ownd;subst hvd;have bd : Below wx.heap.size wx wd:=bc.grown growd (by have:=bc.size;omega) (fun z hz=>(ownc.lt z hz).1)
           obtain ⟨edb,edf,ed0,ed1,ed2,ed3,ed4⟩:=zba (X:=wd) bd st2 k2))
      all_goals
        have HF : Hid _:=zpd (x:=⟨xn,xz,.slice mo xr.length mc,xr,xf,xe⟩) hq hbase d2 st2 hm2 bd ownd HINS.out;exact bodyPost_end (results_none rfl _ _ _) rfl ⟨_,_,rfl,HF.out⟩
theorem zmg (G : Nat->Prop) (C : Array Value) (T : TypeId) (off base b : Nat) (v1 v2 : Value) (s : Sf) (x : Bk) (w : World) (st : ShSg G C T off base b w v1 v2 (.slice none 0 0) [] s) (hm : w.ownsRow base 172 3 x.m x.rs.length (x.rs.flatMap zak)) :
    Calls Tryz.prog 141 #[.pointer (some ⟨b,off,none⟩),.agg #[.string x.nm,.int .i64 x.sz,x.m,.bool x.fx,.int .i64 x.ep]] w fun e w'=>∃ (vb' : Value) (bks' : List Bk),e = .returned (.tuple #[])/\ShSg G C T off base b w' v1 v2 vb' bks' ⟨s.cs,s.ps,insertP s.bs x.pb⟩/\Only (fun i=>i=b) w w':=by
  obtain ⟨i0,hi,hz0,hz1,hz2⟩:=info_parts Tryz.infoBook;obtain ⟨xn,xz,xm,xr,xf,xe⟩:=x;obtain ⟨mo,mc,hmf⟩:=za4 hm;simp only at hmf hm;subst hmf;obtain ⟨W0,hW0,k0,d0,z0⟩:=zb4 w #[.string xn,.int .i64 xz,.slice mo xr.length mc,.bool xf,.int .i64 xe] 117;have HW0 : Hid (W0 = _):=hW0;have hbase : base<=w.heap.size:=st.hbase;have st0:=st.below d0;have hm0:=za9 hm d0;have l0:=za2 k0
  have HINS : Hid (insertP s.bs ⟨xn,xz,xr,xf,xe⟩=(([] : List Bk).take 0 ++ [(⟨xn,xz,.slice mo xr.length mc,xr,xf,xe⟩ : Bk)] ++ ([] : List Bk).drop 0).map Bk.pb):=by
    rw [Hid,<- st.eq]
    rfl
  clear hW0 hm;simp only
  go_enter Tryz.func141,Tryz.ntmps141
  go_upto_block 0 with fail
  rw [<- HW0.out];clear HW0
  go_cut [4] (fun i wr=>i = .int .i64 0/\Below W0.heap.size W0 wr)
  case first =>
    go_wp2_with fail
    go_loopw [4] (fun i wr=>i = .int .i64 0/\Below W0.heap.size W0 wr) (fun i _=>0)
    case atStart=>exact ⟨rfl,Below.refl _ _⟩
    case round =>
      obtain ⟨rfl,hb⟩:=hrel;have st1:=st0.below hb;have pB:=st1.c2
      go_wp2_with fail
      go_quiet (fail)
      go_wp2_with fail
      go_meet
      exact ⟨rfl,⟨hb.os,hb.tape,hb.output,hb.size,hb.block⟩⟩
  case rest =>
    obtain ⟨rfl,hb⟩:=hcut;generalize wc=wy at *;have st1:=st0.below hb;have k1:=(hb.block _ l0).trans k0;have hm1:=za9 hm0 hb;have d1:=za1 d0 hb;have b6 : Below wy.heap.size wy (wy.alloc (.cells #[] 117)):=za3 (Below.refl _ _);have pB:=(Below.cell b6 (p:=⟨b,off+2,none⟩) (st1.lt)).trans (st1.c2)
    obtain ⟨wx,hwx⟩ : ∃ wx,wx=wy.alloc (.cells #[] 117):=⟨_,rfl⟩
    have HWX : Hid (wx = _):=hwx;rw [<- hwx] at b6;have st2:=st1.below b6;have k2:=kb0 b6 k1;have d2:=za1 d1 b6;have hm2:=za9 hm1 b6;obtain ⟨e0b,e0f,e00,e01,e02,e03,e04⟩:=zba (X:=wx.drew) ((Below.refl _ _).drew) st2 k2;obtain ⟨e1b,e1f,e10,e11,e12,e13,e14⟩:=zba (X:=(wx.alloc (.cells #[] 117)).drew) ((za3 (Below.refl _ _)).drew) st2 k2;obtain ⟨e2b,e2f,e20,e21,e22,e23,e24⟩:=zba (X:=(wx.alloc (.cells #[.string xn,.int .i64 xz,.slice mo xr.length mc,.bool xf,.int .i64 xe] 117)).drew) ((za3 (Below.refl _ _)).drew) st2 k2;obtain ⟨e3b,e3f,e30,e31,e32,e33,e34⟩:=zba (X:=((wx.alloc (.cells #[] 117)).alloc (.cells #[.string xn,.int .i64 xz,.slice mo xr.length mc,.bool xf,.int .i64 xe] 117)).drew) ((za3 (za3 (Below.refl _ _))).drew) st2 k2;obtain ⟨e4b,e4f,e40,e41,e42,e43,e44⟩:=zba (X:=((wx.alloc (.cells #[.string xn,.int .i64 xz,.slice mo xr.length mc,.bool xf,.int .i64 xe] 117)).alloc (.cells #[] 117)).drew) ((za3 (za3 (Below.refl _ _))).drew) st2 k2;have HX1 : Hid (∀ u ∈ ([.string xn,.int .i64 xz,.slice mo xr.length mc,.bool xf,.int .i64 xe] : List Value),u.oneCell'=true):=zgs ⟨xn,xz,.slice mo xr.length mc,xr,xf,xe⟩ ⟨_,_,_,rfl⟩;have HM2 : Hid (0+1<=maxLen):=by rw [Hid];unfold maxLen;omega
    have HB2 : Hid ((0+1) * 64<=140737488355328):=by rw [Hid];omega
    have HM3 : Hid (0+1+0<=maxLen):=by rw [Hid];unfold maxLen;omega
    have HB3 : Hid ((0+1+0) * 64<=140737488355328):=by rw [Hid];omega
    have HBX1 : Hid (((wx.alloc (.cells #[] 117)).alloc (.cells #[.string xn,.int .i64 xz,.slice mo xr.length mc,.bool xf,.int .i64 xe] 117)).heap[wx.heap.size+1]? = some (.cells #[.string xn,.int .i64 xz,.slice mo xr.length mc,.bool xf,.int .i64 xe] 117 (0,0))):=by
      obtain ⟨W,hW,-,h,-⟩:=zc7 wx #[] #[.string xn,.int .i64 xz,.slice mo xr.length mc,.bool xf,.int .i64 xe] 117 117;rw [hW] at h;exact h
    have HBX2 : Hid (((wx.alloc (.cells #[.string xn,.int .i64 xz,.slice mo xr.length mc,.bool xf,.int .i64 xe] 117)).alloc (.cells #[] 117)).heap[wx.heap.size]? = some (.cells #[.string xn,.int .i64 xz,.slice mo xr.length mc,.bool xf,.int .i64 xe] 117 (0,0))):=by
      obtain ⟨W,hW,h,-⟩:=zc7 wx #[.string xn,.int .i64 xz,.slice mo xr.length mc,.bool xf,.int .i64 xe] #[] 117 117;rw [hW] at h;exact h
    clear hwx st0 k0 hm0 d0 hb z0 l0 st
    go_wp2_with fail
    rw [<- HWX.out];clear HWX pB
    go_region_law (first
        | (refine zan rfl (.tmp 44) (.tmp 46) 28 rfl wx.heap.size 117 i0 (.agg #[.string ByteArray.empty,.int .i64 0,.slice none 0 0,.bool false,.int .i64 0]) 5 64 Tryz.underlying28 hi hz0 hz1 hz2 rfl (by decide) (.slice (some ⟨wx.heap.size,0,none⟩) 0 0) 0 [] ?e1 ?own (some ⟨wx.heap.size+1,0,none⟩) 1 1 [.string xn,.int .i64 xz,.slice mo xr.length mc,.bool xf,.int .i64 xe] ?e2 rfl ?hn HX1.out HM2.out HB2.out ?hbase ?_
           case e1=>first | rfl | simp [Act.eval]
           case e2=>first | rfl | simp [Act.eval]
           case own=>exact (zcf wx).alloc (.cells #[.string xn,.int .i64 xz,.slice mo xr.length mc,.bool xf,.int .i64 xe] 117)
           case hn=>exact zgv HBX1.out
           case hbase=>simp <;> omega
           intro vc wcc ownc growc nilc;have bc : Below wx.heap.size wx wcc:=((za3 (za3 (Below.refl _ _))).drew).grown growc (by simp <;> omega) (fun z hz=>by simp [Value.ownBlock] at hz;omega)
           obtain ⟨ecb,ecf,ec0,ec1,ec2,ec3,ec4⟩:=zba (X:=wcc) bc st2 k2)
        | (refine zan rfl (.tmp 44) (.tmp 46) 28 rfl wx.heap.size 117 i0 (.agg #[.string ByteArray.empty,.int .i64 0,.slice none 0 0,.bool false,.int .i64 0]) 5 64 Tryz.underlying28 hi hz0 hz1 hz2 rfl (by decide) (.slice (some ⟨wx.heap.size+1,0,none⟩) 0 0) 0 [] ?e1 ?own (some ⟨wx.heap.size,0,none⟩) 1 1 [.string xn,.int .i64 xz,.slice mo xr.length mc,.bool xf,.int .i64 xe] ?e2 rfl ?hn HX1.out HM2.out HB2.out ?hbase ?_
           case e1=>first | rfl | simp [Act.eval]
           case e2=>first | rfl | simp [Act.eval]
           case own=>exact (by have h:=zcf (wx.alloc (.cells #[.string xn,.int .i64 xz,.slice mo xr.length mc,.bool xf,.int .i64 xe] 117));rw [show (wx.alloc (.cells #[.string xn,.int .i64 xz,.slice mo xr.length mc,.bool xf,.int .i64 xe] 117)).heap.size=wx.heap.size+1 by simp] at h;exact zah h (by omega))
           case hn=>exact zgv HBX2.out
           case hbase=>simp <;> omega
           intro vc wcc ownc growc nilc;have bc : Below wx.heap.size wx wcc:=((za3 (za3 (Below.refl _ _))).drew).grown growc (by simp <;> omega) (fun z hz=>by simp [Value.ownBlock] at hz;omega)
           obtain ⟨ecb,ecf,ec0,ec1,ec2,ec3,ec4⟩:=zba (X:=wcc) bc st2 k2)
        | (refine zan rfl (.tmp 47) (.tmp 48) 28 rfl wx.heap.size 117 i0 (.agg #[.string ByteArray.empty,.int .i64 0,.slice none 0 0,.bool false,.int .i64 0]) 5 64 Tryz.underlying28 hi hz0 hz1 hz2 rfl (by decide) vc (0+1) ([] ++ [.string xn,.int .i64 xz,.slice mo xr.length mc,.bool xf,.int .i64 xe]) ?e1 ownc (some ⟨wy.heap.size,0,none⟩) 0 0 [] ?e2 rfl (fun j u h=>by simp at h) (fun u h=>by simp at h) HM3.out HB3.out ?hbase ?_
           case e1=>first | rfl | simp [Act.eval]
           case e2=>first | rfl | simp [Act.eval]
           case hbase=>have:=bc.size;omega
           intro vd wd ownd growd nild;obtain ⟨od,cd,hvd⟩:=za4 ownd;subst hvd;have bd : Below wx.heap.size wx wd:=bc.grown growd (by have:=bc.size;omega) (fun z hz=>(ownc.lt z hz).1)
           obtain ⟨edb,edf,ed0,ed1,ed2,ed3,ed4⟩:=zba (X:=wd) bd st2 k2))
    all_goals
      have HF : Hid _:=zpd (q:=0) (x:=⟨xn,xz,.slice mo xr.length mc,xr,xf,xe⟩) (Nat.le_refl _) hbase d2 st2 hm2 bd ownd HINS.out;exact bodyPost_end (results_none rfl _ _ _) rfl ⟨_,_,rfl,HF.out⟩
theorem zfk (G : Nat->Prop) (C : Array Value) (T : TypeId) (off base b : Nat) (v1 v2 vb : Value) (bks : List Bk) (s : Sf) (x : Bk) (w : World) (st : ShSg G C T off base b w v1 v2 vb bks s) (hn : bks.length<=6) (hm : w.ownsRow base 172 3 x.m x.rs.length (x.rs.flatMap zak)) :
    Calls Tryz.prog 141 #[.pointer (some ⟨b,off,none⟩),.agg #[.string x.nm,.int .i64 x.sz,x.m,.bool x.fx,.int .i64 x.ep]] w fun e w'=>∃ (vb' : Value) (bks' : List Bk),e = .returned (.tuple #[])/\ShSg G C T off base b w' v1 v2 vb' bks' ⟨s.cs,s.ps,insertP s.bs x.pb⟩/\Only (fun i=>i=b) w w':=by
  rcases st.books.row.2 with ⟨e,h0⟩ | ⟨g,cap,cur,e,_⟩
  · subst e
    obtain rfl : bks = []:=List.length_eq_zero_iff.1 h0;exact zmg G C T off base b v1 v2 s x w st hm
  · subst e
    exact zmf G C T off base b g cap v1 v2 bks s x w st hn hm
theorem zx7 (G : Nat->Prop) (C : Array Value) (T : TypeId) (off base b : Nat) (v1 v2 vb : Value) (bks : List Bk) (s : Sf) (nm ot : ByteArray) (at_ va ep : Int) (w : World) (hn : nm.size<=maxLen) (ho : ot.size<=maxLen) (inv : ShInv s) (st : ShSg G C T off base b w v1 v2 vb bks s) (hok : opOk ⟨1,nm,ot,at_,va,ep⟩=true) (href : za5 s.bs ⟨1,nm,ot,at_,va,ep⟩=0) :
    Calls Tryz.prog 86 #[.pointer (some ⟨b,off,none⟩),.agg #[.int .i64 1,.string nm,.string ot,.int .i64 at_,.int .i64 va,.int .i64 ep]] w (DoPostG G C T off base b v1 v2 s ⟨1,nm,ot,at_,va,ep⟩ w):=by
  have hva:=(zc9 hok).2.2.2.2.1 rfl;simp only at hva
  have HD : Hid (doOp s ⟨1,nm,ot,at_,va,ep⟩=(⟨s.cs,s.ps,insertP s.bs ⟨nm,va,[],false,0⟩⟩,(0,0))):=by
    rw [Hid,doOp,if_neg (by rw [hok];decide),if_neg (by rw [href];decide),if_pos rfl]
  obtain ⟨fv,hfv⟩ : ∃ fv,zag bks nm=fv:=⟨_,rfl⟩
  obtain ⟨ob,cap,hvf⟩:=za4 st.books.row;subst hvf;have hbase : base<=w.heap.size:=st.hbase;have HGG : Hid (∀ k,w.heap.size<=k->¬ G k):=fun k hk q=>by have:=st.gl k q;omega
  have HTY : Hid (HoldsSh T):=st.hT;have hfew : bks.length<=6:=by rw [st.len];exact inv.few
  obtain ⟨W0,hW0,k0,k1,d0,z0⟩:=zc7 w #[.int .i64 1,.string nm,.string ot,.int .i64 at_,.int .i64 va,.int .i64 ep] #[.int .i64 0,.int .i64 0] 37 43;have HW0 : Hid (W0 = _):=hW0;have st0:=st.below d0;clear hW0 z0
  go_enter Tryz.func86,Tryz.ntmps86
  go_wp2_with fail
  rw [<- HW0.out];clear HW0;refine (zbl 1 nm ot at_ va ep _ hn ho).mono ?_;rintro e w1 ⟨rfl,b1⟩;rw [hok];replace k0:=kb0 b1 k0;replace k1:=kb0 b1 k1;replace st0:=st0.below b1;replace d0:=za1 d0 b1;clear b1;have hne:=BelowOf.any w1;have rb : ReadsR 5 bookC w1.heap.size w1 (.slice ob bks.length cap) bks:=ReadsR.of_own zae st0.books.row;have hfm:=st0.forms
  have H1 : ∀ q : BelowOf w1,Calls Tryz.prog 139 #[.slice ob bks.length cap,.agg #[.int .i64 1,.string nm,.string ot,.int .i64 at_,.int .i64 va,.int .i64 ep]] q.w' fun e w'=>e = .returned (.int .i64 0)/\Below q.w'.heap.size q.w' w':=fun q=>by
    have h:=zbm (.slice ob bks.length cap) bks 1 nm ot at_ va ep q.w' (by omega) (rb.of (Nat.le_refl _) q) hfm;rw [st.eq,href] at h;exact h
  have c0:=BelowOf.cell (v:=.int .i64 1) (za0 k0 0) (za2 k0);have c1:=BelowOf.cell (v:=.string nm) (za0 k0 1) (za2 k0);have c2:=BelowOf.cell (v:=.string ot) (za0 k0 2) (za2 k0);have c3:=BelowOf.cell (v:=.int .i64 at_) (za0 k0 3) (za2 k0);have c4:=BelowOf.cell (v:=.int .i64 va) (za0 k0 4) (za2 k0);have c5:=BelowOf.cell (v:=.int .i64 ep) (za0 k0 5) (za2 k0);have cB:=BelowOf.cell (v:=.slice ob bks.length cap) (st0.c2) (st0.lt)
  go_wp2_with fail
  refine zad (by kernel_rfl) (by kernel_rfl) ?_
  repeat (go_big_quiet_step ((first | (go_at_call 139;with_reducible exact zb1 (H1 _)) | rfl)))
  refine wpQuiet_nil ?_;intro w2 hw2;obtain ⟨⟨wx,cx⟩,hwx⟩:=hw2;have b2 : Below w1.heap.size w1 w2:=by rw [hwx];exact cx
  clear hwx cx wx hne c0 c1 c2 c3 c4 c5 cB H1 rb;replace k0:=kb0 b2 k0;replace k1:=kb0 b2 k1;replace st0:=st0.below b2;replace d0:=za1 d0 b2;clear b2;have hne:=BelowOf.any w2;have rb : ReadsR 5 bookC w2.heap.size w2 (.slice ob bks.length cap) bks:=ReadsR.of_own zae st0.books.row
  have H2 : ∀ q : BelowOf w2,Calls Tryz.prog 140 #[.slice ob bks.length cap,.string nm] q.w' fun e w'=>e = .returned (.int .i64 fv)/\w'=q.w':=fun q=>by
    have h:=zap (.slice ob bks.length cap) bks nm q.w' (rb.of (Nat.le_refl _) q);rw [hfv] at h;exact h
  have c1:=BelowOf.cell (v:=.string nm) (za0 k0 1) (za2 k0);have cB:=BelowOf.cell (v:=.slice ob bks.length cap) (st0.c2) (st0.lt)
  go_wp2_with fail
  refine zad (by kernel_rfl) (by kernel_rfl) ?_
  repeat (go_big_quiet_step ((first | (go_at_call 140;with_reducible exact zbw (H2 _)) | rfl)))
  refine wpQuiet_nil ?_;intro w3 hw3;obtain ⟨⟨wx,cx⟩,hwx⟩:=hw3;have b3 : Below w2.heap.size w2 w3:=by rw [hwx];exact cx
  clear hwx cx wx hne c1 cB H2 rb;replace k0:=kb0 b3 k0;replace k1:=kb0 b3 k1;replace st0:=st0.below b3;replace d0:=za1 d0 b3;clear b3;obtain ⟨p0,p1⟩:=cq2 k0;have p4:=za0 k0 4
  go_wp2_with fail
  clear p0 p1 p4;refine (zfk G C T off base b v1 v2 _ bks s ⟨nm,va,.slice none 0 0,[],false,0⟩ _ st0 hfew (zes _ _ _ _)).mono ?_;rintro e w4 ⟨vb',bks',rfl,st4,on4⟩;replace k1:=st0.keeps_b on4 k1 HTY.out.rp;have hb4 : Fr G base w3 w4:=st0.box_only on4;have HS : Hid _:=zcb HD.out (Nat.le_succ_of_le hbase) (HGG.out _ (by omega)) k1 st4 ((zdu hbase d0).trans hb4);obtain ⟨q0,q1⟩:=cq2 k1;obtain ⟨f0,f1⟩:=oq2 k1;clear k0 k1 st0 st4 hb4 d0 st HD on4
  go_wp2_with fail
  exact bodyPost_ret (v:=.agg #[.int .i64 0,.int .i64 0]) (by simp [results,Tryz.results86,go_sem,za0 HS.out.1]) rfl HS.out.2
end Go.Proofs.YtfkkapdofjhgpaaGreatDoor
