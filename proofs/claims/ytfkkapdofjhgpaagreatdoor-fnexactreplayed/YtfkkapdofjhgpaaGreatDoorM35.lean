import Derived.Deep.RegionHeld3
import Derived.Deep.DeepCutAuto
import Derived.Test.YtfkkapdofjhgpaaGreatDoorM23
import Derived.Test.YtfkkapdofjhgpaaGreatDoorM25
import Derived.Test.YtfkkapdofjhgpaaGreatDoorM31
import Derived.Test.YtfkkapdofjhgpaaGreatDoorM34
set_option maxHeartbeats 12800000
namespace Go.Proofs.YtfkkapdofjhgpaaGreatDoor
open Go.RowKit
set_option linter.unusedVariables false
set_option maxRecDepth 100000
theorem OwnS.poolBox {base c : Nat} {W W' : World} {v1 v2 vb : Value} {cs ps : List Int} {bks : List Bk} {xs : Array Value} (h : OwnS base W v1 v2 vb cs ps bks) (k : W.heap[c]? = some (.cells xs 27 (0,0))) (u : Upto c W W') : OwnS base W' v1 v2 vb cs ps bks:=by
  have st : ∀ (e : TypeId) (kk n : Nat) (v : Value) (xs : List Value),27 ≠ e->W.ownsRow base e kk v n xs->W'.ownsRow base e kk v n xs:=fun e kk n v xs he hr=>zai hr (fun q hq hqv=>u.block q hq (fun hx=>zaa hr k he (by rw [<- hx];exact hqv)))
  exact ⟨⟨st _ _ _ _ _ (by decide) h.p.c,st _ _ _ _ _ (by decide) h.p.p,h.p.apart⟩,⟨st _ _ _ _ _ (by decide) h.b.row,fun b hb=>st _ _ _ _ _ (by decide) (h.b.maps b hb)⟩,h.a⟩
theorem zqb {α : Type} {k : Nat} {cs : α->List Value} {B : Nat} {w : World} {g cap n : Nat} {xs : List α} (h : ReadsR k cs B w (.slice (some ⟨g,0,none⟩) n cap) xs) (i : Nat) (hi : i<=xs.length) : ReadsR k cs B w (.slice (some ⟨g,0,none⟩) i cap) (xs.take i):=by
  obtain ⟨o,c,hv,hm,hc,hr⟩:=h;simp only [Value.slice.injEq] at hv;obtain ⟨rfl,-,rfl⟩:=hv;have hl : (xs.take i).length=i:=by rw [List.length_take];omega
  refine ⟨some ⟨g,0,none⟩,cap,by rw [hl],by rw [hl];omega,fun j x hj=>?_,by rw [hl];omega⟩
  have hj' : xs[j]? = some x:=by
    have hlt:=(List.getElem?_eq_some_iff.1 hj).1;rw [hl] at hlt
    rwa [List.getElem?_take_of_lt hlt] at hj
  exact hc j x hj'
theorem zqc {α : Type} {k : Nat} {cs : α->List Value} {B : Nat} {w : World} {g cap n : Nat} {xs : List α} (h : ReadsR k cs B w (.slice (some ⟨g,0,none⟩) n cap) xs) (i : Nat) (hi : i<=xs.length) : ReadsR k cs B w (.slice (if cap=i then some ⟨g,0,none⟩ else some ⟨g,i * k,none⟩) (xs.length - i) (cap - i)) (xs.drop i):=by
  obtain ⟨o,c,hv,hm,hc,hr⟩:=h;simp only [Value.slice.injEq] at hv;obtain ⟨rfl,hn,rfl⟩:=hv;refine ⟨_,_,by rw [List.length_drop],by rw [List.length_drop];omega,fun j x hj=>?_,by rw [List.length_drop];omega⟩;rw [List.getElem?_drop] at hj;obtain ⟨g',off',e,hg,hx⟩:=hc (i+j) x hj;simp only [Option.some.injEq,Addr.mk.injEq] at e;obtain ⟨rfl,rfl,-⟩:=e;have hl:=(List.getElem?_eq_some_iff.1 hj).1;rw [if_neg (by omega)];exact ⟨g,i * k,rfl,hg,fun z u hz=>by have:=hx z u hz;rw [Nat.zero_add,Nat.add_mul] at this;exact this⟩
theorem zqd (base i : Nat) (v1 v2 vb : Value) (cs ps : List Int) (bks : List Bk) (w : World) (hbase : base<=w.heap.size) (hi : i < bks.length) (hl : bks.length<=6) (hfit : zb9 bks[i].rs) (own : OwnS base w v1 v2 vb cs ps bks) :
    Calls Tryz.prog 238 #[.agg #[v1,v2,vb],.int .i64 i] w fun e w'=>∃ u1 u2 ub : Value,e = .returned (.agg #[u1,u2,ub])/\OwnS base w' u1 u2 ub (zaj (cs,ps) (pagesOf bks[i].rs)).1 (zaj (cs,ps) (pagesOf bks[i].rs)).2 (bks.take i ++ bks.drop (i+1))/\Below w.heap.size w w':=by
  obtain ⟨o1,k1,o2,k2,ob,kb,rfl,rfl,rfl⟩:=own.forms;obtain ⟨g,cap,hvb⟩:=own.b.at i hi;cases hvb;obtain ⟨W0,hW0,kA,kR,d0,z0⟩:=zc7 w #[.slice o1 cs.length k1,.slice o2 ps.length k2,.slice (some ⟨g,0,none⟩) bks.length kb] #[.slice none 0 0,.slice none 0 0,.slice none 0 0] 30 30;have HW0 : Hid (W0 = _):=hW0;have own0:=own.below d0;have hmi:=own0.b.maps _ (List.getElem_mem hi);obtain ⟨⟨-,-,a2,-,-⟩,-⟩:=zaz own0.b.row i hi;have hg0 : g < W0.heap.size:=(own0.b.row.lt g rfl).2;have HMS : Hid (∀ b ∈ bks,∃ o k cap,b.m = .slice o k cap):=fun b hb=>by obtain ⟨o,c,h⟩:=za4 (own.b.maps b hb);exact ⟨o,_,c,h⟩
  obtain ⟨x,hx⟩ : ∃ x,bks[i]=x:=⟨_,rfl⟩
  rw [hx] at hmi hfit a2 ⊢;clear hx;obtain ⟨xn,xs,xm,xr,xf,xe⟩:=x;simp only at hmi hfit a2 ⊢;obtain ⟨om,cm,hxm⟩:=za4 hmi;subst hxm;have i0 : (0 : Int)<=(i : Int):=by omega
  have i1 : (i : Int) < (bks.length : Int):=by omega
  have hpo : ∀ (v : Value) (w : World) (r : ReadsR 3 zak w.heap.size w v xr),_:=fun v w r=>zcv v xr w hfit r
  obtain ⟨P,hP⟩ : ∃ P,pagesOf xr=P:=⟨_,rfl⟩
  simp only [hP] at hpo;rw [hP];have hdr : ∀ (v1 v2 vl : Value) (w : World) (hbase : base<=w.heap.size) (own : OwnP base w v1 v2 cs ps) (r : Reads w.heap.size w vl (P.map (Value.int .i64))),_:=fun v1 v2 vl w hbase own r=>zh4 base v1 v2 vl cs ps P w hbase own r
  obtain ⟨D,hD⟩ : ∃ D,zaj (cs,ps) P=D:=⟨_,rfl⟩
  simp only [hD] at hdr ⊢;clear hP hD;obtain ⟨D1,D2⟩:=D;simp only at hdr ⊢
  obtain ⟨N,hN⟩ : ∃ N,bks.take i ++ bks.drop (i+1)=N:=⟨_,rfl⟩
  have HNE : Hid (bks.take i ++ bks.drop (i+1)=N):=hN;rw [hN];clear hN;have zr : w.heap.size+1 < W0.heap.size:=by omega
  have zb : base<=W0.heap.size:=by omega
  clear hW0 z0 own
  go_enter Tryz.func238,Tryz.ntmps238
  go_wp2_with fail
  rw [<- HW0.out];clear HW0
  go_cut [5] (fun v wx=>∃ c y1 d1 y2 d2,v = .pointer (some ⟨c,0,none⟩)/\wx.heap[c]? = some (.cells #[.slice y1 D1.length d1,.slice y2 D2.length d2] 27 (0,0))/\wx.heap[w.heap.size]? = some (.cells #[.slice o1 cs.length k1,.slice o2 ps.length k2,.slice (some ⟨g,0,none⟩) bks.length kb] 30 (0,0))/\wx.heap[w.heap.size+1]? = some (.cells #[.slice none 0 0,.slice none 0 0,.slice none 0 0] 30 (0,0))/\OwnS base wx (.slice y1 D1.length d1) (.slice y2 D2.length d2) (.slice (some ⟨g,0,none⟩) bks.length kb) D1 D2 bks/\Below w.heap.size w wx/\w.heap.size+1 < c)
  case first =>
    have HKeep : ∀ X,Below W0.heap.size W0 X->(X.cell? ⟨w.heap.size,0,none⟩=some (.slice o1 cs.length k1)/\X.cell? ⟨w.heap.size,1,none⟩=some (.slice o2 ps.length k2)/\X.cell? ⟨w.heap.size,2,none⟩=some (.slice (some ⟨g,0,none⟩) bks.length kb)/\X.cell? ⟨g,i * 5+2,none⟩=some (.slice om xr.length cm)):=fun X hb=>by
      have x1:=kb0 hb kA;exact ⟨za0 x1 0,za0 x1 1,za0 x1 2,(hb.cell (p:=⟨g,i * 5+2,none⟩) hg0).trans a2⟩
    have RX : ∀ X : World,Below W0.heap.size W0 X->ReadsR 3 zak X.heap.size X (.slice om xr.length cm) xr:=fun X hb=>ReadsR.of_own zat (za9 hmi hb)
    go_region_held3 (fun w'=>w'.cell? ⟨w.heap.size,0,none⟩=some (.slice o1 cs.length k1)/\w'.cell? ⟨w.heap.size,1,none⟩=some (.slice o2 ps.length k2)/\w'.cell? ⟨w.heap.size,2,none⟩=some (.slice (some ⟨g,0,none⟩) bks.length kb)/\w'.cell? ⟨g,i * 5+2,none⟩=some (.slice om xr.length cm))
      ((refine HKeep _ ?_;repeat (first | exact Below.refl _ _ | exact A8 | exact A7 | refine zar ?_ | refine za3 ?_ | refine zb8 ?_ (Nat.le_refl _) _ | refine zb8 ?_ A7.size _)))
      ((first
        | (go_at_call 265
           refine (hpo _ _ (RX _ ?hb)).mono ?_
           case hb=>(repeat (first | exact Below.refl _ _ | refine zar ?_ | refine za3 ?_))
           rintro e w7 ⟨vp,rfl,op7,-,b7⟩;have A7 : Below W0.heap.size W0 w7:=by refine za1 ?_ b7;repeat (first | exact Below.refl _ _ | refine zar ?_ | refine za3 ?_)
           have own7:=own0.below A7;obtain ⟨po,pc,hpv⟩:=za4 op7;subst hpv;have hb7 : base<=w7.heap.size:=Nat.le_trans zb A7.size
           first | (have kb7 : w7.heap[W0.heap.size]? = some (.cells #[.slice none 0 0,.slice none 0 0] 27 (0,0)):=(b7.block _ (by simp)).trans (heap_alloc_new W0 _)) | skip
           skip)
        | (go_at_call 266
           refine (hdr _ _ _ _ ?hb1 ?own ?rd).mono ?_
           case hb1=>first | exact hb7 | (refine Nat.le_trans hb7 ?_;simp)
           case own=>first | exact own7.p | exact (own7.below (za3 (Below.refl _ _))).p
           case rd=>first | exact Reads.of_own op7 | exact Reads.of_own (op7.alloc _)
           rintro e w8 ⟨u1,u2,rfl,ow8,b8⟩;have A8 : Below W0.heap.size W0 w8:=by refine za1 ?_ b8;repeat (first | exact A7 | refine zar ?_ | refine za3 ?_)
           obtain ⟨y1,d1,y2,d2,e1,e2⟩:=ow8.forms;subst e1 e2
           first
             | (have kb8 : w8.heap[W0.heap.size]? = some (.cells #[.slice none 0 0,.slice none 0 0] 27 (0,0)):=kb0 b8 kb7
                obtain ⟨q0,q1⟩:=cq2 kb8;have f0:=za8 kb8 0
                have f1:=za8 kb8 1)
             | (have kb8 : w8.heap[w7.heap.size]? = some (.cells #[.slice none 0 0,.slice none 0 0] 27 (0,0)):=(b8.block _ (by simp)).trans (heap_alloc_new w7 _)
                obtain ⟨q0,q1⟩:=cq2 kb8;have f0:=za8 kb8 0
                have f1:=za8 kb8 1)
             | skip
           skip)))
    all_goals
      have own8 : OwnS base w8 (.slice y1 D1.length d1) (.slice y2 D2.length d2) (.slice (some ⟨g,0,none⟩) bks.length kb) D1 D2 bks:=⟨ow8,(own0.below A8).b,own0.a⟩
      have kA8:=kb0 A8 kA;have kR8:=kb0 A8 kR;have d8:=za1 d0 A8;have s7:=A7.size;have s8:=A8.size;clear op7 own7 ow8 b7 b8 RX HKeep hdr hpo
    · have dx : Below w8.heap.size w8 (w8.alloc (.cells #[.slice y1 D1.length d1,.slice y2 D2.length d2] 27)):=za3 (Below.refl _ _)
      have HR : Hid _:=And.intro (heap_alloc_new w8 (.cells #[.slice y1 D1.length d1,.slice y2 D2.length d2] 27)) (And.intro (kb0 dx kA8) (And.intro (kb0 dx kR8) (And.intro (own8.below dx) (And.intro (za1 d8 dx) (show w.heap.size+1 < w8.heap.size by omega)))));clear dx kA8 kR8 own8 d8 A7 A8
      go_wp2_with fail
      go_meet
      exact ⟨_,_,_,_,_,rfl,HR.out⟩
    · have hq:=zcp kb8 (.slice y1 D1.length d1) (.slice y2 D2.length d2)
      have HR : Hid _:=And.intro hq.1 (And.intro ((hq.2.block _ (za2 kA8) (by omega)).trans kA8) (And.intro ((hq.2.block _ (za2 kR8) (by omega)).trans kR8) (And.intro (own8.poolBox kb8 hq.2) (And.intro (d8.trans (hq.2.toBelow (by omega) (by omega))) (show w.heap.size+1 < w7.heap.size by omega)))));clear hq kA8 kR8 own8 d8 A7 A8 kb8
      go_wp2_with fail
      go_meet
      exact ⟨_,_,_,_,_,rfl,HR.out⟩
    · have hq:=zcp kb8 (.slice y1 D1.length d1) (.slice y2 D2.length d2)
      have HR : Hid _:=And.intro hq.1 (And.intro ((hq.2.block _ (za2 kA8) (by omega)).trans kA8) (And.intro ((hq.2.block _ (za2 kR8) (by omega)).trans kR8) (And.intro (own8.poolBox kb8 hq.2) (And.intro (d8.trans (hq.2.toBelow (by omega) (by omega))) (show w.heap.size+1 < W0.heap.size by omega)))));clear hq kA8 kR8 own8 d8 A7 A8 kb8 kb7
      go_wp2_with fail
      go_meet
      exact ⟨_,_,_,_,_,rfl,HR.out⟩
  case rest =>
    rename World=>W5
    obtain ⟨c,y1,d1,y2,d2,rfl,kP,kA5,kR5,own5,d5,hc⟩:=hcut;have s5:=d5.size;have hb5 : base<=W5.heap.size:=by omega
    have lc:=za2 kP;have hr5:=own5.b.reads.row;have HRT:=zqb hr5 i (by omega);have HRD:=zqc hr5 (i+1) (by omega)
    have hkb : bks.length<=kb:=by
      rcases own5.b.row.2 with ⟨e,he⟩ | ⟨g',cap',cur,e,_,_,hnc,_⟩
      · cases e
      · cases e;exact hnc
    have HMT : Hid (∀ b ∈ bks.take i,∃ o k cap,b.m = .slice o k cap):=fun b hb=>HMS.out b (List.mem_of_mem_take hb)
    have HMD : Hid (∀ b ∈ bks.drop (i+1),∃ o k cap,b.m = .slice o k cap):=fun b hb=>HMS.out b (List.mem_of_mem_drop hb)
    have hll : (bks.take i).length+(bks.drop (i+1)).length<=12:=by rw [List.length_take,List.length_drop];omega
    have HAP : Hid (ApartM (bks.take i ++ bks.drop (i+1))):=by
      have h0 : ApartM (bks.take i ++ (bks[i] :: bks.drop (i+1))):=by rw [<- List.drop_eq_getElem_cons hi,List.take_append_drop];exact own5.a
      obtain ⟨h1,h2,h3⟩:=List.pairwise_append.1 h0;exact List.pairwise_append.2 ⟨h1,(List.pairwise_cons.1 h2).2,fun x hx y hy=>h3 x hx y (List.mem_cons_of_mem _ hy)⟩
    have wi : IntKind.i64.wrap ((i : Int)+1)=(i : Int)+1:=by rw [IntKind.wrap_i64];omega
    have ti : ((i : Int)+1).toNat=i+1:=by omega
    have g0 : (0 : Int)<=(i : Int)+1:=by omega
    have g1 : (i : Int)+1<=(bks.length : Int):=by omega
    have g2 : (i : Int)<=(kb : Int):=by omega
    have g3 : i<=kb:=by omega
    have g4 : i+1<=bks.length:=by omega
    clear kA kR own0 hmi d0 hpo hdr hr5 a2;by_cases hkq : kb=i+1
    · subst hkq
      rw [if_pos rfl,Nat.sub_self,Nat.sub_eq_zero_of_le hkb] at HRD;have g5 : (i : Int)<=((i+1 : Nat) : Int):=by omega
      have g6 : (i : Int)<=(i : Int)+1:=by omega
      have g7 : ((i+1 : Nat) : Int)<=(bks.length : Int):=by omega
      have HKeep : ∀ X,Below W5.heap.size W5 X->(X.cell? ⟨w.heap.size,2,none⟩=some (.slice (some ⟨g,0,none⟩) bks.length (i+1))/\X.cell? ⟨c,0,none⟩=some (.slice y1 D1.length d1)/\X.cell? ⟨c,1,none⟩=some (.slice y2 D2.length d2)):=fun X hb=>by
        have x1:=kb0 hb kA5;have x2:=(hb.block _ lc).trans kP;exact ⟨za0 x1 2,za0 x2 0,za0 x2 1⟩
      have HKeep2 : ∀ (X : World) (z0 z1 z2 : Value),Below W5.heap.size W5 X->((((X.setCell ⟨w.heap.size+1,0,none⟩ z0).setCell ⟨w.heap.size+1,1,none⟩ z1).setCell ⟨w.heap.size+1,2,none⟩ z2).cell? ⟨w.heap.size,2,none⟩=some (.slice (some ⟨g,0,none⟩) bks.length (i+1))/\(((X.setCell ⟨w.heap.size+1,0,none⟩ z0).setCell ⟨w.heap.size+1,1,none⟩ z1).setCell ⟨w.heap.size+1,2,none⟩ z2).cell? ⟨c,0,none⟩=some (.slice y1 D1.length d1)/\(((X.setCell ⟨w.heap.size+1,0,none⟩ z0).setCell ⟨w.heap.size+1,1,none⟩ z1).setCell ⟨w.heap.size+1,2,none⟩ z2).cell? ⟨c,1,none⟩=some (.slice y2 D2.length d2)):=fun X z0 z1 z2 hb=>by
        have u : Upto (w.heap.size+1) X (((X.setCell ⟨w.heap.size+1,0,none⟩ z0).setCell ⟨w.heap.size+1,1,none⟩ z1).setCell ⟨w.heap.size+1,2,none⟩ z2):=(((Upto.refl _ _).setCell ⟨_,0,none⟩ (.inl rfl) _).setCell ⟨_,1,none⟩ (.inl rfl) _).setCell ⟨_,2,none⟩ (.inl rfl) _;have x1:=kb0 hb kA5;have x2:=(hb.block _ lc).trans kP;have x1:=(u.block _ (za2 x1) (by omega)).trans x1;have x2:=(u.block _ (za2 x2) (by omega)).trans x2;exact ⟨za0 x1 2,za0 x2 0,za0 x2 1⟩
      have dX : Below W5.heap.size W5 (W5.alloc (.cells #[.slice (some ⟨g,0,none⟩) i (i+1),.slice (some ⟨g,0,none⟩) 0 0] 28)).drew:=zar (za3 (Below.refl _ _));have kX : (W5.alloc (.cells #[.slice (some ⟨g,0,none⟩) i (i+1),.slice (some ⟨g,0,none⟩) 0 0] 28)).drew.heap[W5.heap.size]? = some (.cells #[.slice (some ⟨g,0,none⟩) i (i+1),.slice (some ⟨g,0,none⟩) 0 0] 28 (0,0)):=heap_alloc_new W5 _;have X0 : Hid _:=za0 kX 0;have X1 : Hid _:=za0 kX 1;have RT:=(HRT.below dX).mono dX.size;have RD:=(HRD.below dX).mono dX.size
      have HN : Hid (∀ b ∈ N,b ∈ bks):=fun b hb=>by
        rw [<- HNE.out] at hb;rcases List.mem_append.1 hb with q | q
        · exact List.mem_of_mem_take q
        · exact List.mem_of_mem_drop q
      rw [HNE.out] at HAP;clear kX
      go_wp2_with fail
      go_region_held3 (fun w'=>w'.cell? ⟨w.heap.size,2,none⟩=some (.slice (some ⟨g,0,none⟩) bks.length (i+1))/\w'.cell? ⟨c,0,none⟩=some (.slice y1 D1.length d1)/\w'.cell? ⟨c,1,none⟩=some (.slice y2 D2.length d2))
        ((first | (refine HKeep2 _ _ _ _ ?_;exact A8) | (refine HKeep _ ?_;repeat (first | exact Below.refl _ _ | exact A8 | refine zar ?_ | refine za3 ?_))))
        ((go_at_call 267;refine (zjz W5.heap.size _ _ (bks.take i) (bks.drop (i+1)) _ hll X0.out X1.out HMT.out HMD.out RT RD).mono ?_;rintro e w8 ⟨ub,rfl,ow8,b8⟩;rw [HNE.out] at ow8;have A8 : Below W5.heap.size W5 w8:=za1 dX b8;have kR8:=kb0 A8 kR5;obtain ⟨o6,c6,hub⟩:=za4 ow8;subst hub;have r0:=za0 kR8 0;have r1:=za0 kR8 1;have r2:=za0 kR8 2;have e0:=za8 kR8 0;have e1:=za8 kR8 1;have e2:=za8 kR8 2;skip))
      all_goals
        have own8:=own5.below A8;have dd:=dX.size
        have owA : OwnS base w8 (.slice y1 D1.length d1) (.slice y2 D2.length d2) (.slice o6 N.length c6) D1 D2 N:=⟨own8.p,⟨zah ow8 (by omega),fun b hb=>own8.b.maps b (HN.out b hb)⟩,HAP.out⟩
        have HS : Hid _:=zaq (w:=w) kR8 (by omega) (za1 d5 A8) (.slice y1 D1.length d1) (.slice y2 D2.length d2) (.slice o6 N.length c6);have HF : Hid _:=OwnS.answer owA kR8 HS.out.2.1;clear owA own8 ow8 b8 kR8 kA5 kR5 own5 d5 HKeep HKeep2 A8 dX RT RD HRT HRD kP X0 X1
        go_wp2_with fail
        exact bodyPost_ret (v:=.agg #[.slice y1 D1.length d1,.slice y2 D2.length d2,.slice o6 N.length c6]) (by simp [results,Tryz.results238,go_sem,za0 HS.out.1]) rfl ⟨_,_,_,rfl,⟨HF.out.1,HF.out.2,HF.out.3⟩,HS.out.2.2⟩
    · rw [if_neg hkq] at HRD
      have HKeep : ∀ X,Below W5.heap.size W5 X->(X.cell? ⟨w.heap.size,2,none⟩=some (.slice (some ⟨g,0,none⟩) bks.length kb)/\X.cell? ⟨c,0,none⟩=some (.slice y1 D1.length d1)/\X.cell? ⟨c,1,none⟩=some (.slice y2 D2.length d2)):=fun X hb=>by
        have x1:=kb0 hb kA5;have x2:=(hb.block _ lc).trans kP;exact ⟨za0 x1 2,za0 x2 0,za0 x2 1⟩
      have HKeep2 : ∀ (X : World) (z0 z1 z2 : Value),Below W5.heap.size W5 X->((((X.setCell ⟨w.heap.size+1,0,none⟩ z0).setCell ⟨w.heap.size+1,1,none⟩ z1).setCell ⟨w.heap.size+1,2,none⟩ z2).cell? ⟨w.heap.size,2,none⟩=some (.slice (some ⟨g,0,none⟩) bks.length kb)/\(((X.setCell ⟨w.heap.size+1,0,none⟩ z0).setCell ⟨w.heap.size+1,1,none⟩ z1).setCell ⟨w.heap.size+1,2,none⟩ z2).cell? ⟨c,0,none⟩=some (.slice y1 D1.length d1)/\(((X.setCell ⟨w.heap.size+1,0,none⟩ z0).setCell ⟨w.heap.size+1,1,none⟩ z1).setCell ⟨w.heap.size+1,2,none⟩ z2).cell? ⟨c,1,none⟩=some (.slice y2 D2.length d2)):=fun X z0 z1 z2 hb=>by
        have u : Upto (w.heap.size+1) X (((X.setCell ⟨w.heap.size+1,0,none⟩ z0).setCell ⟨w.heap.size+1,1,none⟩ z1).setCell ⟨w.heap.size+1,2,none⟩ z2):=(((Upto.refl _ _).setCell ⟨_,0,none⟩ (.inl rfl) _).setCell ⟨_,1,none⟩ (.inl rfl) _).setCell ⟨_,2,none⟩ (.inl rfl) _;have x1:=kb0 hb kA5;have x2:=(hb.block _ lc).trans kP;have x1:=(u.block _ (za2 x1) (by omega)).trans x1;have x2:=(u.block _ (za2 x2) (by omega)).trans x2;exact ⟨za0 x1 2,za0 x2 0,za0 x2 1⟩
      have dX : Below W5.heap.size W5 (W5.alloc (.cells #[.slice (some ⟨g,0,none⟩) i kb,.slice (some ⟨g,(i+1) * 5,none⟩) (bks.length - (i+1)) (kb - (i+1))] 28)).drew:=zar (za3 (Below.refl _ _));have kX : (W5.alloc (.cells #[.slice (some ⟨g,0,none⟩) i kb,.slice (some ⟨g,(i+1) * 5,none⟩) (bks.length - (i+1)) (kb - (i+1))] 28)).drew.heap[W5.heap.size]? = some (.cells #[.slice (some ⟨g,0,none⟩) i kb,.slice (some ⟨g,(i+1) * 5,none⟩) (bks.length - (i+1)) (kb - (i+1))] 28 (0,0)):=heap_alloc_new W5 _;have X0 : Hid _:=za0 kX 0;have X1 : Hid _:=za0 kX 1;have RT:=(HRT.below dX).mono dX.size;have RD:=(HRD.below dX).mono dX.size
      have HN : Hid (∀ b ∈ N,b ∈ bks):=fun b hb=>by
        rw [<- HNE.out] at hb;rcases List.mem_append.1 hb with q | q
        · exact List.mem_of_mem_take q
        · exact List.mem_of_mem_drop q
      rw [HNE.out] at HAP;clear kX
      go_wp2_with fail
      go_region_held3 (fun w'=>w'.cell? ⟨w.heap.size,2,none⟩=some (.slice (some ⟨g,0,none⟩) bks.length kb)/\w'.cell? ⟨c,0,none⟩=some (.slice y1 D1.length d1)/\w'.cell? ⟨c,1,none⟩=some (.slice y2 D2.length d2))
        ((first | (refine HKeep2 _ _ _ _ ?_;exact A8) | (refine HKeep _ ?_;repeat (first | exact Below.refl _ _ | exact A8 | refine zar ?_ | refine za3 ?_))))
        ((go_at_call 267;refine (zjz W5.heap.size _ _ (bks.take i) (bks.drop (i+1)) _ hll X0.out X1.out HMT.out HMD.out RT RD).mono ?_;rintro e w8 ⟨ub,rfl,ow8,b8⟩;rw [HNE.out] at ow8;have A8 : Below W5.heap.size W5 w8:=za1 dX b8;have kR8:=kb0 A8 kR5;obtain ⟨o6,c6,hub⟩:=za4 ow8;subst hub;have r0:=za0 kR8 0;have r1:=za0 kR8 1;have r2:=za0 kR8 2;have e0:=za8 kR8 0;have e1:=za8 kR8 1;have e2:=za8 kR8 2;skip))
      all_goals
        have own8:=own5.below A8;have dd:=dX.size
        have owA : OwnS base w8 (.slice y1 D1.length d1) (.slice y2 D2.length d2) (.slice o6 N.length c6) D1 D2 N:=⟨own8.p,⟨zah ow8 (by omega),fun b hb=>own8.b.maps b (HN.out b hb)⟩,HAP.out⟩
        have HS : Hid _:=zaq (w:=w) kR8 (by omega) (za1 d5 A8) (.slice y1 D1.length d1) (.slice y2 D2.length d2) (.slice o6 N.length c6);have HF : Hid _:=OwnS.answer owA kR8 HS.out.2.1;clear owA own8 ow8 b8 kR8 kA5 kR5 own5 d5 HKeep HKeep2 A8 dX RT RD HRT HRD kP X0 X1
        go_wp2_with fail
        exact bodyPost_ret (v:=.agg #[.slice y1 D1.length d1,.slice y2 D2.length d2,.slice o6 N.length c6]) (by simp [results,Tryz.results238,go_sem,za0 HS.out.1]) rfl ⟨_,_,_,rfl,⟨HF.out.1,HF.out.2,HF.out.3⟩,HS.out.2.2⟩
theorem zue (base : Nat) (v1 v2 vb : Value) (cs ps : List Int) (bks : List Bk) (nm ot : ByteArray) (at_ va ep : Int) (w : World) (ad : Nat->Addr) (hv : Vars w ad) (hbase : base<=w.heap.size) (inv : ShInv ⟨cs,ps,bks.map Bk.pb⟩) (ho : opOk ⟨6,nm,ot,at_,va,ep⟩=true) (hr : za5 (bks.map Bk.pb) ⟨6,nm,ot,at_,va,ep⟩=0) (own : OwnS base w v1 v2 vb cs ps bks) :
    Calls Tryz.prog 208 #[.agg #[v1,v2,vb],.agg #[.int .i64 6,.string nm,.string ot,.int .i64 at_,.int .i64 va,.int .i64 ep]] w fun e w'=>ChPost ad base (doOp ⟨cs,ps,bks.map Bk.pb⟩ ⟨6,nm,ot,at_,va,ep⟩) e w'/\Below w.heap.size w w':=by
  have F:=zcm inv;obtain ⟨i,hi,hat,hop⟩:=zju inv ho hr (fun h=>by cases h);have HAT : Hid (zag bks nm=(i : Int)):=hat;have HOP : Hid _:=hop;clear hat hop;have hfit:=F.fit bks[i] (List.getElem_mem hi);have hl6:=F.few;have hms : ∀ b ∈ bks,∃ o k cap,b.m = .slice o k cap:=fun b hb=>by obtain ⟨o,c,h⟩:=za4 (own.b.maps b hb);exact ⟨o,_,c,h⟩
  have HMS : Hid _:=hms;obtain ⟨o1,k1,o2,k2,ob,kb,rfl,rfl,rfl⟩:=own.forms;obtain ⟨W0,hW0,kA,kO,kR,d0,z0⟩:=zg0 w #[.slice o1 cs.length k1,.slice o2 ps.length k2,.slice ob bks.length kb] #[.int .i64 6,.string nm,.string ot,.int .i64 at_,.int .i64 va,.int .i64 ep] #[.slice none 0 0,.slice none 0 0,.slice none 0 0] 30 37 30;have HW0 : Hid (W0 = _):=hW0;have own0:=own.below d0;have hv0:=hv.below d0;have zr : w.heap.size+1+1 < W0.heap.size:=by omega
  have hb0 : base<=W0.heap.size:=by omega
  have HF : Hid _:=F;have HINV : Hid _:=inv;clear hW0 z0 own hv hms F inv ho hr hbase
  go_enter Tryz.func208,Tryz.ntmps208
  go_wp2_with fail
  rw [<- HW0.out];clear HW0;have hfb : ∀ (v : Value) (w : World) (r : ReadsR 5 bookC w.heap.size w v bks),_:=fun v w r=>zal v bks nm w HMS.out r
  obtain ⟨fi,hfi⟩ : ∃ fi,zag bks nm=fi:=⟨_,rfl⟩
  simp only [hfi] at hfb;have HFI : Hid (zag bks nm=fi):=hfi;clear hfi;refine (hfb _ _ own0.b.reads.row).mono ?_;rintro e w1 ⟨rfl,b1⟩;have kA1:=kb0 b1 kA;have kO1:=kb0 b1 kO;have kR1:=kb0 b1 kR;have own1:=own0.below b1;have hv1:=hv0.below b1;have d1:=za1 d0 b1;have hb1 : base<=w1.heap.size:=Nat.le_trans hb0 b1.size;have hlt1 : w.heap.size+1+1 < w1.heap.size:=Nat.lt_of_lt_of_le zr b1.size;clear b1 kA kO kR own0 hv0 d0 hb0 zr hfb;have hfi2:=HFI.out;rw [HAT.out] at hfi2;subst hfi2;obtain ⟨p0,p1,p2⟩:=cq3 kA1;obtain ⟨q0,q1,q2,q3,q4,q5⟩:=cq6 kO1
  go_wp2_with fail
  clear p0 p1 p2 q0 q1 q2 q3 q4 q5;refine (zqd base i _ _ _ cs ps bks _ hb1 hi hl6 hfit own1).mono ?_;rintro e w2 ⟨u1,u2,ub,rfl,ow2,b2⟩
  obtain ⟨D,hD⟩ : ∃ D,zaj (cs,ps) (pagesOf bks[i].rs)=D:=⟨_,rfl⟩
  have HD : Hid (zaj (cs,ps) (pagesOf bks[i].rs)=D):=hD;simp only [hD] at ow2;clear hD
  obtain ⟨N,hN⟩ : ∃ N,bks.take i ++ bks.drop (i+1)=N:=⟨_,rfl⟩
  have HN : Hid (bks.take i ++ bks.drop (i+1)=N):=hN;simp only [hN] at ow2;clear hN;obtain ⟨y1,j1,y2,j2,o6,c6,hu1,hu2,hub⟩:=ow2.forms;subst hu1 hu2 hub;have kR2:=kb0 b2 kR1;have d2:=za1 d1 b2;have hs:=zaq (w:=w) kR2 (by omega) d2 (.slice y1 D.1.length j1) (.slice y2 D.2.length j2) (.slice o6 N.length c6);have ow3:=OwnS.answer ow2 kR2 hs.2.1;obtain ⟨r0,r1,r2⟩:=cq3 kR2;obtain ⟨e0,e1,e2⟩:=oq3 kR2
  obtain ⟨W3,hW3⟩ : ∃ W3 : World,W3=((w2.setCell ⟨w.heap.size+1+1,0,none⟩ (.slice y1 D.1.length j1)).setCell ⟨w.heap.size+1+1,1,none⟩ (.slice y2 D.2.length j2)).setCell ⟨w.heap.size+1+1,2,none⟩ (.slice o6 N.length c6):=⟨_,rfl⟩
  rw [<- hW3] at hs ow3;have HW3 : Hid (W3 = _):=hW3;clear hW3 ow2 b2 kA1 kO1 own1 hv1 d1 kR1
  go_upto_region 20 with fail
  rw [<- HW3.out];clear HW3 r0 r1 r2 e0 e1 e2 kR2;have HS : Hid _:=zaq (w:=w) hs.1 (by omega) hs.2.2 (.slice y1 D.1.length j1) (.slice y2 D.2.length j2) (.slice o6 N.length c6);have HG : Hid _:=OwnS.answer ow3 hs.1 HS.out.2.1;obtain ⟨r0,r1,r2⟩:=cq3 hs.1;obtain ⟨e0,e1,e2⟩:=oq3 hs.1;clear hs ow3 d2
  go_wp2_with fail
  exact bodyPost_ret (v:=.tuple #[.agg #[.slice y1 D.1.length j1,.slice y2 D.2.length j2,.slice o6 N.length c6],.int .i64 0,.nilIface]) (by simp [results,Tryz.results208,go_sem,za0 HS.out.1]) rfl ⟨by
    rw [ztz hi HOP.out,HD.out,HN.out]
    exact .inl ⟨rfl,_,_,_,_,rfl,⟨HG.out.1,HG.out.2,HG.out.3⟩,rfl⟩,HS.out.2.2⟩
theorem zuf (base : Nat) (v1 v2 vb : Value) (cs ps : List Int) (bks : List Bk) (nm ot : ByteArray) (at_ va ep : Int) (w : World) (ad : Nat->Addr) (hv : Vars w ad) (hbase : base<=w.heap.size) (inv : ShInv ⟨cs,ps,bks.map Bk.pb⟩) (ho : opOk ⟨7,nm,ot,at_,va,ep⟩=true) (hr : za5 (bks.map Bk.pb) ⟨7,nm,ot,at_,va,ep⟩=0) (own : OwnS base w v1 v2 vb cs ps bks) :
    Calls Tryz.prog 208 #[.agg #[v1,v2,vb],.agg #[.int .i64 7,.string nm,.string ot,.int .i64 at_,.int .i64 va,.int .i64 ep]] w fun e w'=>ChPost ad base (doOp ⟨cs,ps,bks.map Bk.pb⟩ ⟨7,nm,ot,at_,va,ep⟩) e w'/\Below w.heap.size w w':=by
  have F:=zcm inv;obtain ⟨i,hi,hat,hop⟩:=zju inv ho hr (fun h=>by cases h);have HAT : Hid (zag bks nm=(i : Int)):=hat;have HOP : Hid _:=hop;clear hat hop;have hfit:=F.fit bks[i] (List.getElem_mem hi);have hmo:=F.map bks[i] (List.getElem_mem hi);have hl6:=F.few;have hvs : 1<=va/\va<=16:=(zc9 ho).2.2.2.2.1 rfl;have hms : ∀ b ∈ bks,∃ o k cap,b.m = .slice o k cap:=fun b hb=>by obtain ⟨o,c,h⟩:=za4 (own.b.maps b hb);exact ⟨o,_,c,h⟩
  have HMS : Hid _:=hms;obtain ⟨o1,k1,o2,k2,ob,kb,rfl,rfl,rfl⟩:=own.forms;obtain ⟨W0,hW0,kA,kO,kR,d0,z0⟩:=zg0 w #[.slice o1 cs.length k1,.slice o2 ps.length k2,.slice ob bks.length kb] #[.int .i64 7,.string nm,.string ot,.int .i64 at_,.int .i64 va,.int .i64 ep] #[.slice none 0 0,.slice none 0 0,.slice none 0 0] 30 37 30;have HW0 : Hid (W0 = _):=hW0;have own0:=own.below d0;have hv0:=hv.below d0;have zr : w.heap.size+1+1 < W0.heap.size:=by omega
  have hb0 : base<=W0.heap.size:=by omega
  have HF : Hid _:=F;have HINV : Hid _:=inv;clear hW0 z0 own hv hms F inv ho hr hbase
  go_enter Tryz.func208,Tryz.ntmps208
  go_wp2_with fail
  rw [<- HW0.out];clear HW0;have hfb : ∀ (v : Value) (w : World) (r : ReadsR 5 bookC w.heap.size w v bks),_:=fun v w r=>zal v bks nm w HMS.out r
  obtain ⟨fi,hfi⟩ : ∃ fi,zag bks nm=fi:=⟨_,rfl⟩
  simp only [hfi] at hfb;have HFI : Hid (zag bks nm=fi):=hfi;clear hfi;refine (hfb _ _ own0.b.reads.row).mono ?_;rintro e w1 ⟨rfl,b1⟩;have kA1:=kb0 b1 kA;have kO1:=kb0 b1 kO;have kR1:=kb0 b1 kR;have own1:=own0.below b1;have hv1:=hv0.below b1;have d1:=za1 d0 b1;have hb1 : base<=w1.heap.size:=Nat.le_trans hb0 b1.size;have hlt1 : w.heap.size+1+1 < w1.heap.size:=Nat.lt_of_lt_of_le zr b1.size;clear b1 kA kO kR own0 hv0 d0 hb0 zr hfb;have hfi2:=HFI.out;rw [HAT.out] at hfi2;subst hfi2;obtain ⟨p0,p1,p2⟩:=cq3 kA1;obtain ⟨q0,q1,q2,q3,q4,q5⟩:=cq6 kO1
  go_wp2_with fail
  clear p0 p1 p2 q0 q1 q2 q3 q4 q5;refine (zqa base i va _ _ _ cs ps bks _ hb1 hi hl6 hvs hmo hfit own1).mono ?_;rintro e w2 ⟨u1,u2,ub,m,rfl,ow2,b2⟩
  obtain ⟨D,hD⟩ : ∃ D,zaj (cs,ps) ((pagesOf bks[i].rs).drop (pagesOf (belowM bks[i].rs va)).length)=D:=⟨_,rfl⟩
  have HD : Hid (zaj (cs,ps) ((pagesOf bks[i].rs).drop (pagesOf (belowM bks[i].rs va)).length)=D):=hD;simp only [hD] at ow2;clear hD
  obtain ⟨N,hN⟩ : ∃ N,bks.set i ⟨bks[i].nm,va,m,belowM bks[i].rs va,bks[i].fx,bks[i].ep⟩=N:=⟨_,rfl⟩
  have HN : Hid (bks.set i ⟨bks[i].nm,va,m,belowM bks[i].rs va,bks[i].fx,bks[i].ep⟩=N):=hN;simp only [hN] at ow2;clear hN;obtain ⟨y1,j1,y2,j2,o6,c6,hu1,hu2,hub⟩:=ow2.forms;subst hu1 hu2 hub;have kR2:=kb0 b2 kR1;have d2:=za1 d1 b2;have hs:=zaq (w:=w) kR2 (by omega) d2 (.slice y1 D.1.length j1) (.slice y2 D.2.length j2) (.slice o6 N.length c6);have ow3:=OwnS.answer ow2 kR2 hs.2.1;obtain ⟨r0,r1,r2⟩:=cq3 kR2;obtain ⟨e0,e1,e2⟩:=oq3 kR2
  obtain ⟨W3,hW3⟩ : ∃ W3 : World,W3=((w2.setCell ⟨w.heap.size+1+1,0,none⟩ (.slice y1 D.1.length j1)).setCell ⟨w.heap.size+1+1,1,none⟩ (.slice y2 D.2.length j2)).setCell ⟨w.heap.size+1+1,2,none⟩ (.slice o6 N.length c6):=⟨_,rfl⟩
  rw [<- hW3] at hs ow3;have HW3 : Hid (W3 = _):=hW3;clear hW3 ow2 b2 kA1 kO1 own1 hv1 d1 kR1
  go_upto_region 20 with fail
  rw [<- HW3.out];clear HW3 r0 r1 r2 e0 e1 e2 kR2;have HS : Hid _:=zaq (w:=w) hs.1 (by omega) hs.2.2 (.slice y1 D.1.length j1) (.slice y2 D.2.length j2) (.slice o6 N.length c6);have HG : Hid _:=OwnS.answer ow3 hs.1 HS.out.2.1;obtain ⟨r0,r1,r2⟩:=cq3 hs.1;obtain ⟨e0,e1,e2⟩:=oq3 hs.1;clear hs ow3 d2
  go_wp2_with fail
  exact bodyPost_ret (v:=.tuple #[.agg #[.slice y1 D.1.length j1,.slice y2 D.2.length j2,.slice o6 N.length c6],.int .i64 0,.nilIface]) (by simp [results,Tryz.results208,go_sem,za0 HS.out.1]) rfl ⟨by
    rw [zu0 hi HOP.out m,HD.out,HN.out]
    exact .inl ⟨rfl,_,_,_,_,rfl,⟨HG.out.1,HG.out.2,HG.out.3⟩,rfl⟩,HS.out.2.2⟩
theorem zug (base : Nat) (v1 v2 vb : Value) (cs ps : List Int) (bks : List Bk) (nm ot : ByteArray) (at_ va ep : Int) (w : World) (ad : Nat->Addr) (hv : Vars w ad) (hbase : base<=w.heap.size) (inv : ShInv ⟨cs,ps,bks.map Bk.pb⟩) (ho : opOk ⟨8,nm,ot,at_,va,ep⟩=true) (hr : za5 (bks.map Bk.pb) ⟨8,nm,ot,at_,va,ep⟩=0) (own : OwnS base w v1 v2 vb cs ps bks) :
    Calls Tryz.prog 208 #[.agg #[v1,v2,vb],.agg #[.int .i64 8,.string nm,.string ot,.int .i64 at_,.int .i64 va,.int .i64 ep]] w fun e w'=>ChPost ad base (doOp ⟨cs,ps,bks.map Bk.pb⟩ ⟨8,nm,ot,at_,va,ep⟩) e w'/\Below w.heap.size w w':=by
  have F:=zcm inv;obtain ⟨i,hi,hat,hop⟩:=zju inv ho hr (fun h=>by cases h);have HAT : Hid (zag bks nm=(i : Int)):=hat;have HOP : Hid _:=hop;clear hat hop;have hep:=F.ep bks[i] (List.getElem_mem hi);have hl6:=F.few
  obtain ⟨E,hE⟩ : ∃ E,bks[i].ep+1=E:=⟨_,rfl⟩
  have HE : Hid (bks[i].ep+1=E):=hE;clear hE;have hms : ∀ b ∈ bks,∃ o k cap,b.m = .slice o k cap:=fun b hb=>by obtain ⟨o,c,h⟩:=za4 (own.b.maps b hb);exact ⟨o,_,c,h⟩
  have HMS : Hid _:=hms;obtain ⟨o1,k1,o2,k2,ob,kb,rfl,rfl,rfl⟩:=own.forms;obtain ⟨W0,hW0,kA,kO,kR,d0,z0⟩:=zg0 w #[.slice o1 cs.length k1,.slice o2 ps.length k2,.slice ob bks.length kb] #[.int .i64 8,.string nm,.string ot,.int .i64 at_,.int .i64 va,.int .i64 ep] #[.slice none 0 0,.slice none 0 0,.slice none 0 0] 30 37 30;have HW0 : Hid (W0 = _):=hW0;have own0:=own.below d0;have hv0:=hv.below d0;have zr : w.heap.size+1+1 < W0.heap.size:=by omega
  have hb0 : base<=W0.heap.size:=by omega
  have HF : Hid _:=F;have HINV : Hid _:=inv;clear hW0 z0 own hv hms F inv ho hr hbase
  go_enter Tryz.func208,Tryz.ntmps208
  go_wp2_with fail
  rw [<- HW0.out];clear HW0;have hfb : ∀ (v : Value) (w : World) (r : ReadsR 5 bookC w.heap.size w v bks),_:=fun v w r=>zal v bks nm w HMS.out r
  obtain ⟨fi,hfi⟩ : ∃ fi,zag bks nm=fi:=⟨_,rfl⟩
  simp only [hfi] at hfb;have HFI : Hid (zag bks nm=fi):=hfi;clear hfi;refine (hfb _ _ own0.b.reads.row).mono ?_;rintro e w1 ⟨rfl,b1⟩;have kA1:=kb0 b1 kA;have kO1:=kb0 b1 kO;have kR1:=kb0 b1 kR;have own1:=own0.below b1;have hv1:=hv0.below b1;have d1:=za1 d0 b1;have hb1 : base<=w1.heap.size:=Nat.le_trans hb0 b1.size;have hlt1 : w.heap.size+1+1 < w1.heap.size:=Nat.lt_of_lt_of_le zr b1.size;clear b1 kA kO kR own0 hv0 d0 hb0 zr hfb;have hfi2:=HFI.out;rw [HAT.out] at hfi2;subst hfi2;obtain ⟨p0,p1,p2⟩:=cq3 kA1;obtain ⟨q0,q1,q2,q3,q4,q5⟩:=cq6 kO1
  go_wp2_with fail
  clear p0 p1 p2 q0 q1 q2 q3 q4 q5;refine (zoi base i _ _ _ cs ps bks _ hb1 hi hl6 hep own1).mono ?_;rintro e w2 ⟨ub,rfl,ow2,b2⟩
  obtain ⟨N,hN⟩ : ∃ N,bks.set i ⟨bks[i].nm,bks[i].sz,bks[i].m,bks[i].rs,bks[i].fx,bks[i].ep+1⟩=N:=⟨_,rfl⟩
  have HN : Hid (bks.set i ⟨bks[i].nm,bks[i].sz,bks[i].m,bks[i].rs,bks[i].fx,bks[i].ep+1⟩=N):=hN;rw [hN] at ow2;rw [HE.out];clear hN;obtain ⟨_,_,_,_,o6,c6,-,-,hub⟩:=ow2.forms;subst hub;have kR2:=kb0 b2 kR1;have d2:=za1 d1 b2;have hs:=zaq (w:=w) kR2 (by omega) d2 (.slice o1 cs.length k1) (.slice o2 ps.length k2) (.slice o6 N.length c6);have ow3:=OwnS.answer ow2 kR2 hs.2.1;obtain ⟨r0,r1,r2⟩:=cq3 kR2;obtain ⟨e0,e1,e2⟩:=oq3 kR2
  obtain ⟨W3,hW3⟩ : ∃ W3 : World,W3=((w2.setCell ⟨w.heap.size+1+1,0,none⟩ (.slice o1 cs.length k1)).setCell ⟨w.heap.size+1+1,1,none⟩ (.slice o2 ps.length k2)).setCell ⟨w.heap.size+1+1,2,none⟩ (.slice o6 N.length c6):=⟨_,rfl⟩
  rw [<- hW3] at hs ow3;have HW3 : Hid (W3 = _):=hW3;clear hW3 ow2 b2 kA1 kO1 own1 hv1 d1 kR1
  go_upto_region 20 with fail
  rw [<- HW3.out];clear HW3 r0 r1 r2 e0 e1 e2 kR2;have HS : Hid _:=zaq (w:=w) hs.1 (by omega) hs.2.2 (.slice o1 cs.length k1) (.slice o2 ps.length k2) (.slice o6 N.length c6);have HG : Hid _:=OwnS.answer ow3 hs.1 HS.out.2.1;obtain ⟨r0,r1,r2⟩:=cq3 hs.1;obtain ⟨e0,e1,e2⟩:=oq3 hs.1;clear hs ow3 d2
  go_wp2_with fail
  exact bodyPost_ret (v:=.tuple #[.agg #[.slice o1 cs.length k1,.slice o2 ps.length k2,.slice o6 N.length c6],.int .i64 E,.nilIface]) (by simp [results,Tryz.results208,go_sem,za0 HS.out.1]) rfl ⟨by
    rw [zu1 hi HOP.out bks[i].m,HN.out,HE.out]
    exact .inl ⟨rfl,_,_,_,_,rfl,⟨HG.out.1,HG.out.2,HG.out.3⟩,rfl⟩,HS.out.2.2⟩
end Go.Proofs.YtfkkapdofjhgpaaGreatDoor
