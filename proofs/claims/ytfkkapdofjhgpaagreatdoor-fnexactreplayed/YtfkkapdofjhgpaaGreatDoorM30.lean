import Derived.RangeFuncBox
import Derived.Test.YtfkkapdofjhgpaaGreatDoorM01
import Derived.Test.YtfkkapdofjhgpaaGreatDoorM04
import Derived.Test.YtfkkapdofjhgpaaGreatDoorM05
import Derived.Test.YtfkkapdofjhgpaaGreatDoorM23
import Derived.Test.YtfkkapdofjhgpaaGreatDoorM27
import Derived.Test.YtfkkapdofjhgpaaGreatDoorM29
set_option maxHeartbeats 12800000
namespace Go.Proofs.YtfkkapdofjhgpaaGreatDoor
open Go.RowKit
set_option linter.unusedVariables false
set_option maxRecDepth 100000
theorem zu5 {bks : List Bk} (h : ApartM bks) (i : Nat) (hi : i < bks.length) (y : Bk) (ha : ∀ j (hj : j < bks.length),j ≠ i->∀ g,y.m.ownBlock=some g->bks[j].m.ownBlock ≠ some g) : ApartM (bks.set i y):=by
  refine List.pairwise_iff_getElem.2 (fun a b hA hB hab g hg=>?_);have hA' : a < bks.length:=by simpa using hA
  have hB' : b < bks.length:=by simpa using hB
  rw [List.getElem_set] at hg ⊢
  split at hg
  · rename_i e
    subst e;rw [if_neg (by omega)];exact ha b hB' (by omega) g hg
  · rename_i e
    split
    · rename_i e2
      subst e2;intro hy;exact ha a hA' (by omega) g hy hg
    · exact (List.pairwise_iff_getElem.1 h a b hA' hB' hab) g hg
theorem OwnS.answer {base c : Nat} {W W' : World} {v1 v2 vb : Value} {cs ps : List Int} {bks : List Bk} {xs : Array Value} (h : OwnS base W v1 v2 vb cs ps bks) (k : W.heap[c]? = some (.cells xs 30 (0,0))) (u : Upto c W W') : OwnS base W' v1 v2 vb cs ps bks:=by
  have st : ∀ (e : TypeId) (kk n : Nat) (v : Value) (xs : List Value),30 ≠ e->W.ownsRow base e kk v n xs->W'.ownsRow base e kk v n xs:=fun e kk n v xs he hr=>zai hr (fun q hq hqv=>u.block q hq (fun hx=>zaa hr k he (by rw [<- hx];exact hqv)))
  exact ⟨⟨st _ _ _ _ _ (by decide) h.p.c,st _ _ _ _ _ (by decide) h.p.p,h.p.apart⟩,⟨st _ _ _ _ _ (by decide) h.b.row,fun b hb=>st _ _ _ _ _ (by decide) (h.b.maps b hb)⟩,h.a⟩
theorem zh3 (base i : Nat) (v1 v2 vb : Value) (cs ps : List Int) (bks : List Bk) (y : Bk) (w : World) (hbase : base<=w.heap.size) (hi : i < bks.length) (hl : bks.length<=6) (own : OwnS base w v1 v2 vb cs ps bks) (hy : w.ownsRow base 172 3 y.m y.rs.length (y.rs.flatMap zak)) (ha : ∀ j (hj : j < bks.length),j ≠ i->∀ g,y.m.ownBlock=some g->bks[j].m.ownBlock ≠ some g) :
    Calls Tryz.prog 263 #[.agg #[v1,v2,vb],.int .i64 i,.agg #[.string y.nm,.int .i64 y.sz,y.m,.bool y.fx,.int .i64 y.ep]] w fun e w'=>∃ ub : Value,e = .returned (.agg #[v1,v2,ub])/\OwnS base w' v1 v2 ub cs ps (bks.set i y)/\Below w.heap.size w w':=by
  obtain ⟨o1,k1,o2,k2,ob,kb,rfl,rfl,rfl⟩:=own.forms;have HA : Hid _:=zu5 own.a i hi y ha;obtain ⟨om,cm,hym⟩:=za4 hy;obtain ⟨W0,hW0,kA,kY,kR,d0,z0⟩:=zg0 w #[.slice o1 cs.length k1,.slice o2 ps.length k2,.slice ob bks.length kb] #[.string y.nm,.int .i64 y.sz,.slice om y.rs.length cm,.bool y.fx,.int .i64 y.ep] #[.slice none 0 0,.slice none 0 0,.slice none 0 0] 30 117 30;have HW0 : Hid (W0 = _):=hW0;have own0:=own.below d0;have hy0:=za9 hy d0;have z0a : w.heap.size+1+1 < W0.heap.size:=by omega
  have HMS : Hid (∀ b ∈ bks,∃ o k cap,b.m = .slice o k cap):=fun b hb=>by obtain ⟨o,c,h⟩:=za4 (own.b.maps b hb);exact ⟨o,_,c,h⟩
  rw [hym];clear hW0 z0 own hy ha
  go_enter Tryz.func263,Tryz.ntmps263
  go_wp2_with fail
  rw [<- HW0.out];clear HW0;refine (zi5 _ bks _ (by omega) HMS.out own0.b.reads.row).mono ?_;rintro e w1 ⟨ub,rfl,og,b1⟩
  obtain ⟨n,hn1⟩ : ∃ n,bks.length=n+1:=⟨bks.length - 1,by omega⟩
  obtain ⟨g,cap,hub⟩ : ∃ g cap,ub = .slice (some ⟨g,0,none⟩) bks.length cap:=by
    have h:=og;rw [hn1] at h ⊢;exact zfn h
  subst hub;replace kA:=kb0 b1 kA;replace kY:=kb0 b1 kY;replace kR:=kb0 b1 kR;have d1:=za1 d0 b1;have own1:=own0.below b1;have hy1:=za9 hy0 b1;have z1:=b1.size;have hgl:=og.lt g rfl;obtain ⟨⟨t0,t1,t2,t3,t4⟩,f0,f1,f2,f3,f4⟩:=zaz og i hi
  obtain ⟨W2,hW2⟩ : ∃ W2 : World,W2=((((w1.setCell ⟨g,i * 5,none⟩ (.string y.nm)).setCell ⟨g,i * 5+1,none⟩ (.int .i64 y.sz)).setCell ⟨g,i * 5+2,none⟩ (.slice om y.rs.length cm)).setCell ⟨g,i * 5+3,none⟩ (.bool y.fx)).setCell ⟨g,i * 5+4,none⟩ (.int .i64 y.ep):=⟨_,rfl⟩
  have HW2 : Hid (W2 = _):=hW2;have ob1:=zgo og i hi y;rw [hym,<- hW2] at ob1
  have u1 : Upto g w1 W2:=by
    rw [hW2];exact (((((Upto.refl _ _).setCell ⟨g,i * 5,none⟩ (.inl rfl) _).setCell ⟨g,i * 5+1,none⟩ (.inl rfl) _).setCell ⟨g,i * 5+2,none⟩ (.inl rfl) _).setCell ⟨g,i * 5+3,none⟩ (.inl rfl) _).setCell ⟨g,i * 5+4,none⟩ (.inl rfl) _
  clear hW2;have kA2:=(u1.block _ (za2 kA) (by omega)).trans kA;have kR2:=(u1.block _ (za2 kR) (by omega)).trans kR;have d2 : Below w.heap.size w W2:=d1.trans (u1.toBelow d1.size (by have:=d0.size;omega))
  have mp2 : ∀ b ∈ bks.set i y,W2.ownsRow base 172 3 b.m b.rs.length (b.rs.flatMap zak):=fun b hb=>by
    rcases List.mem_or_eq_of_mem_set hb with q | rfl
    · exact zfx (zah og (by have:=d0.size;omega)) u1 (own1.b.maps b q)
    · exact zfx (zah og (by have:=d0.size;omega)) u1 hy1
  have pl2 : OwnP base W2 (.slice o1 cs.length k1) (.slice o2 ps.length k2) cs ps:=by
    have st : ∀ (v : Value) (n : Nat) (xs : List Value),w1.ownsRow base 2 1 v n xs->W2.ownsRow base 2 1 v n xs:=fun v n xs h=>zai h (fun q hq hqv=>u1.block q hq (fun hx=>zdp h og (by decide) g rfl (by rw [<- hx];exact hqv)))
    exact ⟨st _ _ _ own1.p.c,st _ _ _ own1.p.p,own1.p.apart⟩
  have HO : Hid _:=And.intro ob1 (And.intro mp2 (And.intro pl2 d2));obtain ⟨y0,y1,y2,y3,y4⟩:=cq5 kY;obtain ⟨a0,a1⟩:=cq2 kA2;have HS : Hid _:=zaq (w:=w) kR2 (by omega) d2 (.slice o1 cs.length k1) (.slice o2 ps.length k2) (.slice (some ⟨g,0,none⟩) bks.length cap);obtain ⟨r0,r1,r2⟩:=cq3 kR2;obtain ⟨e0,e1,e2⟩:=oq3 kR2;have i0 : (0 : Int)<=(i : Int):=by omega
  have i1 : (i : Int) < (bks.length : Int):=by omega
  have n1 : ¬ w.heap.size=g:=by omega
  have n2 : ¬ g=w.heap.size:=by omega
  have n3 : ¬ w.heap.size+1+1=g:=by omega
  have n4 : ¬ g=w.heap.size+1+1:=by omega
  have n5 : ¬ w.heap.size+1=g:=by omega
  have n6 : ¬ g=w.heap.size+1:=by omega
  have HF : Hid _:=OwnS.answer ⟨HO.out.2.2.1,⟨zah HO.out.1 (by have:=d0.size;omega),HO.out.2.1⟩,HA.out⟩ kR2 HS.out.2.1
  obtain ⟨x,hx⟩ : ∃ x,bks[i]=x:=⟨_,rfl⟩
  rw [hx] at t0 t1 t2 t3 t4;clear hx;obtain ⟨xn,xs,xm,xr,xf,xe⟩:=x;simp only at t0 t1 t2 t3 t4;clear ob1 mp2 pl2 d2 u1 kA kY kR kA2 kR2 og own0 own1 hy0 hy1 HO HA d0 d1 b1 hym hgl z1 z0a hn1 hbase hl
  go_upto_region 3 with fail
  rw [<- HW2.out];clear HW2 t0 t1 t2 t3 t4 f0 f1 f2 f3 f4 y0 y1 y2 y3 y4
  go_wp2_with fail
  exact bodyPost_ret (v:=.agg #[.slice o1 cs.length k1,.slice o2 ps.length k2,.slice (some ⟨g,0,none⟩) bks.length cap]) (by simp [results,Tryz.results263,go_sem,za0 HS.out.1]) rfl ⟨_,rfl,⟨HF.out.1,HF.out.2,HF.out.3⟩,HS.out.2.2⟩
end Go.Proofs.YtfkkapdofjhgpaaGreatDoor
namespace Go.Proofs.YtfkkapdofjhgpaaGreatDoor
open Go.RowKit
set_option linter.unusedVariables false
theorem znp (bks : List Bk) (b : Bk) (j : Nat) (hj : j<=bks.length) (h1 : ∀ i (hi : i < bks.length),j<=i->ltB b.nm bks[i].nm=true) (h2 : ∀ i (hi : i < bks.length),i < j->ltB bks[i].nm b.nm=true) : stepB bks b j=zda bks b:=by
  have e : zbp (bks.map Bk.pb) b.nm=j:=zgt _ _ j (by simpa using hj) (fun i hi hij=>by simpa [Bk.pb] using h2 i (by simpa using hi) hij) (fun h=>by
    have:=h1 j (by simpa using h) (Nat.le_refl _)
    simpa [Bk.pb] using zj1 this)
  rw [zda,e]
  rfl
set_option maxRecDepth 100000 in
theorem zq3 (base g cap N : Nat) (bks : List Bk) (b : Bk) (w : World) (hN1 : bks.length+1<=N) (hN2 : N<=bks.length+1) (hl : bks.length<=6) (hms : ∀ x ∈ bks,∃ o k c,x.m = .slice o k c) (hmb : ∃ o k c,b.m = .slice o k c) (hs : (bks.map Bk.nm).Pairwise (fun x y=>ltB x y=true)) (hnew : ∀ x ∈ bks,x.nm ≠ b.nm)
    (own : w.ownsRow base 117 5 (.slice (some ⟨g,0,none⟩) N cap) (stepB bks b bks.length).length ((stepB bks b bks.length).flatMap bookC)) :
    Calls Tryz.prog 288 #[.slice (some ⟨g,0,none⟩) N cap,.int .i64 0,.int .i64 (N : Int),.func (.func 275) #[] #[]] w fun e w'=>e = .returned (.tuple #[])/\w'.ownsRow base 117 5 (.slice (some ⟨g,0,none⟩) N cap) (zda bks b).length ((zda bks b).flatMap bookC)/\Upto g w w':=by
  have HMS : Hid _:=hms;have HMB : Hid _:=hmb
  have HSR : Hid (∀ i j (hi : i < bks.length) (hj : j < bks.length),i < j->ltB bks[i].nm bks[j].nm=true):=fun i j hi hj hij=>by
    have:=List.pairwise_iff_getElem.1 hs i j (by simpa using hi) (by simpa using hj) hij
    simpa using this
  have HNE : Hid (∀ i (hi : i < bks.length),ltB bks[i].nm b.nm = !(ltB b.nm bks[i].nm)):=fun i hi=>by
    cases h : ltB b.nm bks[i].nm
    · cases h2 : ltB bks[i].nm b.nm
      · exact absurd (zn8 h2 h) (hnew _ (List.getElem_mem hi))
      · rfl
    · rw [zj1 h];rfl
  clear hms hmb hs hnew
  go_enter Tryz.func288,Tryz.ntmps288
  go_wp2_with fail
  go_loopw [8] (fun i wr=>∃ q : Nat,1<=q/\q<=bks.length+1/\i = .int .i64 q/\(q<=bks.length->wr.ownsRow base 117 5 (.slice (some ⟨g,0,none⟩) N cap) (stepB bks b bks.length).length ((stepB bks b bks.length).flatMap bookC))/\(bks.length < q->bks.length ≠ 0->wr.ownsRow base 117 5 (.slice (some ⟨g,0,none⟩) N cap) (zda bks b).length ((zda bks b).flatMap bookC))/\Upto g w wr/\(bks.length=0->wr=w)) (fun i _=>bks.length+1 - (intOf i).toNat)
  case atStart=>exact ⟨1,Nat.le_refl _,by omega,by go_num,fun _=>own,fun h1 h2=>by omega,Upto.refl _ _,fun _=>rfl⟩
  case round =>
    obtain ⟨q,hq1,hq,rfl,ow1,ow2,u,hz⟩:=hrel;by_cases hlt : q<=bks.length
    · have ow:=ow1 hlt
      have i1 : (q : Int) < (N : Int):=by omega
      clear ow1 ow2 own hz;rcases Nat.lt_or_ge q bks.length with hqn | hqn
      · -- two of the old ones,in their order: nothing is moved
        have hlo:=HSR.out (q - 1) q (by omega) hqn (by omega);have hno : ¬ zoa bks[q].nm bks[q - 1].nm < 0:=by rw [zps,zj1 hlo];decide
        have hlS:=zhh bks b bks.length (Nat.le_refl _);obtain ⟨⟨a0,a1,a2,a3,a4⟩,-⟩:=zaz ow q (by omega);obtain ⟨⟨c0,c1,c2,c3,c4⟩,-⟩:=zaz ow (q - 1) (by omega)
        have e1 : (stepB bks b bks.length)[q]'(by omega)=bks[q]:=by
          have h:=zeo bks b bks.length q hqn (Nat.le_refl _);rw [List.getElem?_eq_getElem (by omega),List.getElem?_eq_getElem hqn] at h;exact Option.some.inj h
        have e2 : (stepB bks b bks.length)[q - 1]'(by omega)=bks[q - 1]:=by
          have h:=zeo bks b bks.length (q - 1) (by omega) (Nat.le_refl _);rw [List.getElem?_eq_getElem (by omega),List.getElem?_eq_getElem (show q - 1 < bks.length by omega)] at h;exact Option.some.inj h
        rw [e1] at a0 a1 a2 a3 a4;rw [e2] at c0 c1 c2 c3 c4;obtain ⟨oa,ka,ca,ha⟩:=HMS.out bks[q] (List.getElem_mem hqn);obtain ⟨oc,kc,cc,hc⟩:=HMS.out bks[q - 1] (List.getElem_mem (by omega));have lg:=(ow.lt g rfl).2;generalize bks[q]=xa at *;generalize bks[q - 1]=xc at *;obtain ⟨an,asz,am,ar,af,ae⟩:=xa;obtain ⟨cn,cs,cm,cr,cf,ce⟩:=xc;simp only at a0 a1 a2 a3 a4 c0 c1 c2 c3 c4 ha hc hno;subst ha hc
        obtain ⟨p,hp⟩ : ∃ p,q=p+1:=⟨q - 1,by omega⟩
        have HPQ : Hid (q=p+1):=hp;have e3 : q - 1=p:=by omega
        rw [e3] at c0 c1 c2 c3 c4;have w1a : IntKind.i64.wrap ((q : Int) - 1)=p:=by rw [IntKind.wrap_i64];omega
        have w1b : (q : Int) - 1=p:=by omega
        have w1c : IntKind.i64.wrap (p : Int)=p:=by rw [IntKind.wrap_i64];omega
        have j0 : (0 : Int)<=(p : Int):=by omega
        have j1 : (p : Int) < (N : Int):=by omega
        have j2 : decide (0 < q)=true:=decide_eq_true (by omega);have HOW : Hid (wr.ownsRow base 117 5 (.slice (some ⟨g,0,none⟩) N cap) (stepB bks b bks.length).length ((stepB bks b bks.length).flatMap bookC)):=ow;clear e1 e2 e3 hp hlS hlo ow
        go_wp2_with fail
        go_loopw [9] (fun j wr2=>j = .int .i64 q/\wr2=wr) (fun _ _=>0)
        case atStart=>exact ⟨rfl,rfl⟩
        case round =>
          obtain ⟨rfl,rfl⟩:=hrel;have hne:=BelowOf.any wr;have a0':=BelowOf.cell a0 lg;have a1':=BelowOf.cell a1 lg;have a2':=BelowOf.cell a2 lg;have a3':=BelowOf.cell a3 lg;have a4':=BelowOf.cell a4 lg;have c0':=BelowOf.cell c0 lg;have c1':=BelowOf.cell c1 lg;have c2':=BelowOf.cell c2 lg;have c3':=BelowOf.cell c3 lg;have c4':=BelowOf.cell c4 lg
          obtain ⟨cv,hcv⟩ : ∃ cv,zoa an cn=cv:=⟨_,rfl⟩
          rw [hcv] at hno;have HB : ∀ z : BelowOf wr,Calls Tryz.prog 275 #[.agg #[.string an,.int .i64 asz,.slice oa ka ca,.bool af,.int .i64 ae],.agg #[.string cn,.int .i64 cs,.slice oc kc cc,.bool cf,.int .i64 ce]] z.w' fun e w'=>e = .returned (.int .i64 cv)/\Below z.w'.heap.size z.w' w':=fun z=>by have h:=zls an asz oa ka ca af ae cn cs oc kc cc cf ce z.w';rwa [hcv] at h
          clear hcv a0 a1 a2 a3 a4 c0 c1 c2 c3 c4
          go_wp2_with fail
          refine zad (by kernel_rfl) (by kernel_rfl) ?_
          repeat (go_big_quiet_step ((first | (go_at_call 275;exact zb1 (HB _)) | rfl)))
          refine wpQuiet_nil ?_;intro w5 hw5;obtain ⟨⟨wx,cx⟩,hwx⟩:=hw5;have b5 : Below wr.heap.size wr w5:=by rw [hwx];exact cx
          clear hwx cx wx;have ow5:=za9 HOW.out b5;have u5:=u.below b5;clear a0' a1' a2' a3' a4' c0' c1' c2' c3' c4' HB hne
          go_wp2_with fail
          go_roundw
          case rel=>exact ⟨q+1,by omega,by omega,by go_num,fun _=>ow5,fun h1 h2=>by omega,u5,fun h=>by omega⟩
          case measure=>simp [intOf] <;> omega
      · -- the new one comes down to its place
        obtain rfl : q=bks.length:=by omega
        go_wp2_with fail
        go_loopw [9] (fun j wr2=>∃ p : Nat,p<=bks.length/\j = .int .i64 p/\wr2.ownsRow base 117 5 (.slice (some ⟨g,0,none⟩) N cap) (stepB bks b p).length ((stepB bks b p).flatMap bookC)/\(∀ i (hi : i < bks.length),p<=i->ltB b.nm bks[i].nm=true)/\Upto g w wr2) (fun j _=>(intOf j).toNat)
        case atStart=>exact ⟨bks.length,Nat.le_refl _,rfl,ow,fun i hi h=>by omega,u⟩
        case round =>
          clear ow u;obtain ⟨p,hp,rfl,ow,hgt,u⟩:=hrel;have HGT : Hid _:=hgt;clear hgt;rcases Nat.eq_zero_or_pos p with hp0 | hpp
          · subst hp0
            have HF : Hid (stepB bks b 0=zda bks b):=znp bks b 0 (Nat.zero_le _) (fun i hi h=>HGT.out i hi h) (fun i hi h=>by omega);rw [HF.out] at ow
            go_wp2_with fail
            refine zad (by kernel_rfl) (by kernel_rfl) ?_
            repeat (go_big_quiet_step (rfl))
            refine wpQuiet_nil ?_;intro w5 hw5;obtain ⟨⟨wx,cx⟩,hwx⟩:=hw5;have b5 : Below wr.heap.size wr w5:=by rw [hwx];exact cx
            clear hwx cx wx;have ow5:=za9 ow b5;have u5:=u.below b5;clear ow u b5
            go_wp2_with fail
            go_roundw
            case rel=>exact ⟨bks.length+1,by omega,by omega,by go_num,fun h=>by omega,fun h1 h2=>ow5,u5,fun h=>by omega⟩
            case measure=>simp [intOf] <;> omega
          · obtain ⟨k,rfl⟩ : ∃ k,p=k+1:=⟨p - 1,by omega⟩
            have hk : k < bks.length:=by omega
            have hlS:=zhh bks b (k+1) hp;obtain ⟨⟨a0,a1,a2,a3,a4⟩,fa0,fa1,fa2,fa3,fa4⟩:=zaz ow (k+1) (by omega);obtain ⟨⟨c0,c1,c2,c3,c4⟩,fc0,fc1,fc2,fc3,fc4⟩:=zaz ow k (by omega)
            have e1 : (stepB bks b (k+1))[k+1]'(by omega)=b:=by
              have h:=zpt bks b (k+1) hp;rw [List.getElem?_eq_getElem (by omega)] at h;exact Option.some.inj h
            have e2 : (stepB bks b (k+1))[k]'(by omega)=bks[k]:=by
              have h:=zeo bks b (k+1) k (by omega) hp;rw [List.getElem?_eq_getElem (by omega),List.getElem?_eq_getElem hk] at h;exact Option.some.inj h
            rw [e1] at a0 a1 a2 a3 a4;rw [e2] at c0 c1 c2 c3 c4;obtain ⟨oa,ka,ca,ha⟩:=HMB.out;obtain ⟨oc,kc,cc,hc⟩:=HMS.out bks[k] (List.getElem_mem hk);have lg:=(ow.lt g rfl).2;have HNK:=HNE.out k hk;have HSK : Hid (∀ i (hi : i < bks.length),i < k->ltB bks[i].nm bks[k].nm=true):=fun i hi h=>HSR.out i k hi hk h
            have HCM : Hid (zoa b.nm bks[k].nm < 0 ↔ ltB b.nm bks[k].nm=true):=zps _ _
            have HSTOP : Hid (ltB b.nm bks[k].nm=false->stepB bks b (k+1)=zda bks b):=fun h=>znp bks b (k+1) hp (fun i hi h2=>HGT.out i hi h2) (fun i hi h2=>by
              have hkb : ltB bks[k].nm b.nm=true:=by rw [HNK,h];rfl
              rcases Nat.lt_or_ge i k with z | z
              · exact zhb (HSK.out i hi z) hkb
              · obtain rfl : i=k:=by omega
                exact hkb)
            have HGT2 : Hid (ltB b.nm bks[k].nm=true->∀ i (hi : i < bks.length),k<=i->ltB b.nm bks[i].nm=true):=fun h i hi h2=>by
              rcases Nat.lt_or_ge k i with z | z
              · exact HGT.out i hi (by omega)
              · obtain rfl : i=k:=by omega
                exact h
            have HOW : Hid (wr.ownsRow base 117 5 (.slice (some ⟨g,0,none⟩) N cap) (stepB bks b (k+1)).length ((stepB bks b (k+1)).flatMap bookC)):=ow;clear ow e1 e2 hlS HNK HSK;generalize hKC : bks[k]=xc at *;generalize hB : b=xa at a0 a1 a2 a3 a4 ha HCM HSTOP HGT2 HOW;obtain ⟨an,asz,am,ar,af,ae⟩:=xa;obtain ⟨cn,csz,cm,cr,cf,ce⟩:=xc;simp only at a0 a1 a2 a3 a4 c0 c1 c2 c3 c4 ha hc HCM HSTOP HGT2;clear fa0 fa1 fa2 fa3 fa4 fc0 fc1 fc2 fc3 fc4;subst ha hc;have w1a : IntKind.i64.wrap (((k+1 : Nat) : Int) - 1)=k:=by rw [IntKind.wrap_i64];omega
            have w1b : ((k+1 : Nat) : Int) - 1=k:=by omega
            have w1c : IntKind.i64.wrap (k : Int)=k:=by rw [IntKind.wrap_i64];omega
            have j0 : (0 : Int)<=(k : Int):=by omega
            have j1 : (k : Int) < (N : Int):=by omega
            have j2 : decide (0 < k+1)=true:=decide_eq_true (by omega);have j3 : ((k+1 : Nat) : Int) < (N : Int):=by omega
            have hne:=BelowOf.any wr;have a0':=BelowOf.cell a0 lg;have a1':=BelowOf.cell a1 lg;have a2':=BelowOf.cell a2 lg;have a3':=BelowOf.cell a3 lg;have a4':=BelowOf.cell a4 lg;have c0':=BelowOf.cell c0 lg;have c1':=BelowOf.cell c1 lg;have c2':=BelowOf.cell c2 lg;have c3':=BelowOf.cell c3 lg;have c4':=BelowOf.cell c4 lg
            obtain ⟨cv,hcv⟩ : ∃ cv,zoa an cn=cv:=⟨_,rfl⟩
            rw [hcv] at HCM;have HB : ∀ z : BelowOf wr,Calls Tryz.prog 275 #[.agg #[.string an,.int .i64 asz,.slice oa ka ca,.bool af,.int .i64 ae],.agg #[.string cn,.int .i64 csz,.slice oc kc cc,.bool cf,.int .i64 ce]] z.w' fun e w'=>e = .returned (.int .i64 cv)/\Below z.w'.heap.size z.w' w':=fun z=>by have h:=zls an asz oa ka ca af ae cn csz oc kc cc cf ce z.w';rwa [hcv] at h
            clear hcv;have HST : Hid _:=HSTOP.out;have HGG : Hid _:=HGT2.out;clear HSTOP HGT2;by_cases hcn : cv < 0
            · have HL : Hid _:=HGG.out (HCM.out.1 hcn)
              clear HCM HST HGG;clear a0 a1 a2 a3 a4 c0 c1 c2 c3 c4
              go_wp2_with fail
              refine zad (by kernel_rfl) (by kernel_rfl) ?_
              repeat (go_big_quiet_step ((first | (go_at_call 275;exact zb1 (HB _)) | rfl)))
              refine wpQuiet_nil ?_;intro w5 hw5;obtain ⟨⟨wx,cx⟩,hwx⟩:=hw5;have b5 : Below wr.heap.size wr w5:=by rw [hwx];exact cx
              clear hwx cx wx;clear a0' a1' a2' a3' a4' c0' c1' c2' c3' c4' HB hne;have ow5:=za9 HOW.out b5;have u5:=u.below b5;have hlS:=zhh bks ⟨an,asz,.slice oa ka ca,ar,af,ae⟩ (k+1) hp;obtain ⟨⟨a0,a1,a2,a3,a4⟩,fa0,fa1,fa2,fa3,fa4⟩:=zaz ow5 (k+1) (by omega);obtain ⟨⟨c0,c1,c2,c3,c4⟩,fc0,fc1,fc2,fc3,fc4⟩:=zaz ow5 k (by omega)
              have e1 : (stepB bks ⟨an,asz,.slice oa ka ca,ar,af,ae⟩ (k+1))[k+1]'(by omega)=⟨an,asz,.slice oa ka ca,ar,af,ae⟩:=by
                have h:=zpt bks ⟨an,asz,.slice oa ka ca,ar,af,ae⟩ (k+1) hp;rw [List.getElem?_eq_getElem (by omega)] at h;exact Option.some.inj h
              have e2 : (stepB bks ⟨an,asz,.slice oa ka ca,ar,af,ae⟩ (k+1))[k]'(by omega)=⟨cn,csz,.slice oc kc cc,cr,cf,ce⟩:=by
                have h:=zeo bks ⟨an,asz,.slice oa ka ca,ar,af,ae⟩ (k+1) k (by omega) hp;rw [List.getElem?_eq_getElem (by omega),List.getElem?_eq_getElem hk,hKC] at h;exact Option.some.inj h
              rw [e1] at a0 a1 a2 a3 a4;rw [e2] at c0 c1 c2 c3 c4;simp only at a0 a1 a2 a3 a4 c0 c1 c2 c3 c4;obtain ⟨hsw1,hsw2⟩:=zrs bks ⟨an,asz,.slice oa ka ca,ar,af,ae⟩ k hk;rw [hKC] at hsw1 hsw2;have ob1:=zgo (zgo ow5 (k+1) (by omega) ⟨cn,csz,.slice oc kc cc,cr,cf,ce⟩) k (by simp <;> omega) ⟨an,asz,.slice oa ka ca,ar,af,ae⟩;have ob2:=zgo (zgo ow5 k (by omega) ⟨an,asz,.slice oa ka ca,ar,af,ae⟩) (k+1) (by simp <;> omega) ⟨cn,csz,.slice oc kc cc,cr,cf,ce⟩;rw [hsw1] at ob1;rw [hsw2] at ob2;simp only at ob1 ob2
              have x1 : Upto g w5 ((((((((((w5.setCell ⟨g,(k+1) * 5,none⟩ (.string cn)).setCell ⟨g,(k+1) * 5+1,none⟩ (.int .i64 csz)).setCell ⟨g,(k+1) * 5+2,none⟩ (.slice oc kc cc)).setCell ⟨g,(k+1) * 5+3,none⟩ (.bool cf)).setCell ⟨g,(k+1) * 5+4,none⟩ (.int .i64 ce)).setCell ⟨g,k * 5,none⟩ (.string an)).setCell ⟨g,k * 5+1,none⟩ (.int .i64 asz)).setCell ⟨g,k * 5+2,none⟩ (.slice oa ka ca)).setCell ⟨g,k * 5+3,none⟩ (.bool af)).setCell ⟨g,k * 5+4,none⟩ (.int .i64 ae)):=(((((((((((Upto.refl _ _).setCell ⟨g,(k+1) * 5,none⟩ (.inl rfl) _).setCell ⟨g,(k+1) * 5+1,none⟩ (.inl rfl) _).setCell ⟨g,(k+1) * 5+2,none⟩ (.inl rfl) _).setCell ⟨g,(k+1) * 5+3,none⟩ (.inl rfl) _).setCell ⟨g,(k+1) * 5+4,none⟩ (.inl rfl) _).setCell ⟨g,k * 5,none⟩ (.inl rfl) _).setCell ⟨g,k * 5+1,none⟩ (.inl rfl) _).setCell ⟨g,k * 5+2,none⟩ (.inl rfl) _).setCell ⟨g,k * 5+3,none⟩ (.inl rfl) _).setCell ⟨g,k * 5+4,none⟩ (.inl rfl) _)
              have x2 : Upto g w5 ((((((((((w5.setCell ⟨g,k * 5,none⟩ (.string an)).setCell ⟨g,k * 5+1,none⟩ (.int .i64 asz)).setCell ⟨g,k * 5+2,none⟩ (.slice oa ka ca)).setCell ⟨g,k * 5+3,none⟩ (.bool af)).setCell ⟨g,k * 5+4,none⟩ (.int .i64 ae)).setCell ⟨g,(k+1) * 5,none⟩ (.string cn)).setCell ⟨g,(k+1) * 5+1,none⟩ (.int .i64 csz)).setCell ⟨g,(k+1) * 5+2,none⟩ (.slice oc kc cc)).setCell ⟨g,(k+1) * 5+3,none⟩ (.bool cf)).setCell ⟨g,(k+1) * 5+4,none⟩ (.int .i64 ce)):=(((((((((((Upto.refl _ _).setCell ⟨g,k * 5,none⟩ (.inl rfl) _).setCell ⟨g,k * 5+1,none⟩ (.inl rfl) _).setCell ⟨g,k * 5+2,none⟩ (.inl rfl) _).setCell ⟨g,k * 5+3,none⟩ (.inl rfl) _).setCell ⟨g,k * 5+4,none⟩ (.inl rfl) _).setCell ⟨g,(k+1) * 5,none⟩ (.inl rfl) _).setCell ⟨g,(k+1) * 5+1,none⟩ (.inl rfl) _).setCell ⟨g,(k+1) * 5+2,none⟩ (.inl rfl) _).setCell ⟨g,(k+1) * 5+3,none⟩ (.inl rfl) _).setCell ⟨g,(k+1) * 5+4,none⟩ (.inl rfl) _)
              have HO1 : Hid _:=And.intro ob1 (u5.trans x1);have HO2 : Hid _:=And.intro ob2 (u5.trans x2);have n1 : ¬ (k+1) * 5=k * 5:=by omega
              clear ob1 ob2 x1 x2 hsw1 hsw2 e1 e2 ow5 u5 hlS HOW b5 u HGT
              go_wp2_with fail
              go_region
              all_goals
                go_wp2_with fail
                go_roundw
                case rel=>exact ⟨k,by omega,rfl,by first | exact za9 HO1.out.1 ((Below.refl _ _).drew) | exact za9 HO2.out.1 ((Below.refl _ _).drew),HL.out,by first | exact HO1.out.2.drew | exact HO2.out.2.drew⟩
                case measure=>simp [intOf] <;> omega
            · have HF : Hid _:=HST.out (Bool.eq_false_iff.2 (fun h=>hcn (HCM.out.2 h)))
              clear HCM HST HGG a0 a1 a2 a3 a4 c0 c1 c2 c3 c4
              go_wp2_with fail
              refine zad (by kernel_rfl) (by kernel_rfl) ?_
              repeat (go_big_quiet_step ((first | (go_at_call 275;exact zb1 (HB _)) | rfl)))
              refine wpQuiet_nil ?_;intro w5 hw5;obtain ⟨⟨wx,cx⟩,hwx⟩:=hw5;have b5 : Below wr.heap.size wr w5:=by rw [hwx];exact cx
              clear hwx cx wx;clear a0' a1' a2' a3' a4' c0' c1' c2' c3' c4' HB hne;have ow5:=za9 HOW.out b5;rw [HF.out,<- hB] at ow5;have u5:=u.below b5
              go_wp2_with fail
              go_roundw
              case rel=>exact ⟨bks.length+1,by omega,by omega,by go_num,fun h=>by omega,fun h1 h2=>ow5,u5,fun h=>by omega⟩
              case measure=>simp [intOf] <;> omega
    · have hqe : q=bks.length+1:=by omega
      have hql : ¬ (q : Int) < (N : Int):=by omega
      have HO : Hid (wr.ownsRow base 117 5 (.slice (some ⟨g,0,none⟩) N cap) (zda bks b).length ((zda bks b).flatMap bookC)):=by
        rcases Nat.eq_zero_or_pos bks.length with h0 | h0
        · rw [hz h0]
          have e : bks = []:=List.length_eq_zero_iff.1 h0;subst e;exact own
        · exact ow2 (by omega) (by omega)
      clear ow1 ow2 own hz
      go_wp2_with fail
      exact bodyPost_end (results_none rfl _ _ _) rfl ⟨rfl,HO.out,u⟩
set_option maxRecDepth 100000 in
theorem zmu (base g cap N : Nat) (bks : List Bk) (b : Bk) (w : World) (hN1 : bks.length+1<=N) (hN2 : N<=bks.length+1) (hl : bks.length<=6) (hms : ∀ x ∈ bks,∃ o k c,x.m = .slice o k c) (hmb : ∃ o k c,b.m = .slice o k c) (hs : (bks.map Bk.nm).Pairwise (fun x y=>ltB x y=true)) (hnew : ∀ x ∈ bks,x.nm ≠ b.nm)
    (own : w.ownsRow base 117 5 (.slice (some ⟨g,0,none⟩) N cap) (stepB bks b bks.length).length ((stepB bks b bks.length).flatMap bookC)) :
    Calls Tryz.prog 274 #[.slice (some ⟨g,0,none⟩) N cap,.func (.func 275) #[] #[]] w fun e w'=>e = .returned (.tuple #[])/\w'.ownsRow base 117 5 (.slice (some ⟨g,0,none⟩) N cap) (zda bks b).length ((zda bks b).flatMap bookC)/\Upto g w w':=by
  have H : ∀ (lim : Int) (w2 : World),w2=w->Calls Tryz.prog 284 #[.slice (some ⟨g,0,none⟩) N cap,.int .i64 0,.int .i64 (N : Int),.int .i64 lim,.func (.func 275) #[] #[]] w2 fun e w'=>e = .returned (.tuple #[])/\w'.ownsRow base 117 5 (.slice (some ⟨g,0,none⟩) N cap) (zda bks b).length ((zda bks b).flatMap bookC)/\Upto g w w':=fun lim w2 e2=>by
    subst e2;have h12 : (N : Int)<=12:=by omega
    have H1 : Hid _:=hms;have H2 : Hid _:=hmb;have H3 : Hid _:=hs;have H4 : Hid _:=hnew;have H5 : Hid (w2.ownsRow base 117 5 (.slice (some ⟨g,0,none⟩) N cap) (stepB bks b bks.length).length ((stepB bks b bks.length).flatMap bookC)):=own;clear hms hmb hs hnew own
    go_enter Tryz.func284,Tryz.ntmps284
    go_wp2_with fail
    refine wp_loop_rounds 1 ?_;rw [rounds_succ]
    go_wp2_with fail
    refine (zq3 base g cap N bks b _ hN1 hN2 hl H1.out H2.out H3.out H4.out H5.out).mono ?_;rintro e w1 ⟨rfl,ho,hu⟩;have HO : Hid _:=And.intro ho hu;clear ho hu H1 H2 H3 H4 H5
    go_wp2_with fail
    exact bodyPost_ret (results_none rfl _ _ _) rfl ⟨rfl,HO.out⟩
  have hN7 : N<=7:=by omega
  have HH : Hid _:=H;clear H hms hmb hs hnew own
  go_enter Tryz.func274,Tryz.ntmps274
  go_wp2_with fail
  refine (zxt N hN7 _).mono ?_;rintro e w1 ⟨r,rfl,hw1⟩
  go_wp2_with fail
  clear hw1;refine (HH.out r _ rfl).mono ?_;rintro e w2 ⟨rfl,ho,hu⟩;have HO : Hid _:=And.intro ho hu;clear ho hu HH
  go_wp2_with fail
  exact bodyPost_end (results_none rfl _ _ _) rfl ⟨rfl,HO.out⟩
end Go.Proofs.YtfkkapdofjhgpaaGreatDoor
namespace Go.Proofs.YtfkkapdofjhgpaaGreatDoor
open Go.RowKit
set_option linter.unusedVariables false
set_option maxRecDepth 100000
theorem zm2 (x : Int) (w : World) :
    Calls Tryz.prog 219 #[.int .i64 x] w fun e w'=>e = .returned (.bool (decide (1<=x) && decide (x<=16)))/\w'=w:=by
  by_cases h : (1 : Int)<=x
  · go_enter Tryz.func219,Tryz.ntmps219
    go_wp2
    go_ret;exact ⟨za6 (by simp [h]),rfl⟩
  · go_enter Tryz.func219,Tryz.ntmps219
    go_wp2
    go_ret;exact ⟨za6 (by simp;omega),rfl⟩
theorem zq4 (x : Int) (w : World) :
    Calls Tryz.prog 222 #[.int .i64 x] w fun e w'=>e = .returned (.bool (decide (0<=x) && decide (x<=1000)))/\w'=w:=by
  by_cases h : (0 : Int)<=x
  · go_enter Tryz.func222,Tryz.ntmps222
    go_wp2
    go_ret;exact ⟨za6 (by simp [h]),rfl⟩
  · go_enter Tryz.func222,Tryz.ntmps222
    go_wp2
    go_ret;exact ⟨za6 (by simp;omega),rfl⟩
theorem zm3 (v : Value) (rs : List (Int × Int × Int)) (sz : Int) (w : World) (hok : mapOk rs=true) (r : ReadsR 3 zak w.heap.size w v rs) :
    Calls Tryz.prog 221 #[v,.int .i64 sz] w fun e w'=>e = .returned (.bool (zdr rs sz))/\Below w.heap.size w w':=by
  obtain ⟨o,cap,rfl,hm,hc,-⟩:=r;rcases Nat.eq_zero_or_pos rs.length with h0 | hpos
  · have HE : Hid (zdr rs sz=true):=by rw [Hid,List.length_eq_zero_iff.1 h0];rfl
    rw [h0];clear hok hc h0 hm
    go_enter Tryz.func221,Tryz.ntmps221
    go_wp2_with fail
    go_ret;exact ⟨za6 HE.out.symm,Below.refl _ _⟩
  · obtain ⟨k,hk⟩ : ∃ k,rs.length=k+1:=⟨rs.length - 1,by omega⟩
    have hlt : k < rs.length:=by omega
    obtain ⟨g,off,rfl,hg,a0,a1,a2⟩:=zcn hc k hlt;have HE : Hid _:=zsu rs sz k hk;have hin:=zyk rs hok k hlt;generalize rs[k]=x at a0 a1 a2 HE hin;obtain ⟨f,c,p⟩:=x;simp only at a0 a1 a2 HE hin;have hw1 : IntKind.i64.wrap ((k : Int)+1 - 1)=k:=by unfold maxLen at hm;rw [IntKind.wrap_i64];omega
    have hw2 : (k : Int)+1 - 1=k:=by omega
    have hw4 : IntKind.i64.wrap (k : Int)=k:=by unfold maxLen at hm;rw [IntKind.wrap_i64];omega
    have hw3 : IntKind.i64.wrap (f+c)=f+c:=by rw [IntKind.wrap_i64];omega
    have hi0 : (0 : Int)<=(k : Int):=by omega
    have hi1 : (k : Int) < (k : Int)+1:=by omega
    have hz : ((k : Int)+1 == 0)=false:=by rw [beq_eq_false_iff_ne];omega
    rw [hk];clear hok hc hpos hin hk
    go_enter Tryz.func221,Tryz.ntmps221
    go_wp2_with fail
    go_ret;exact ⟨za6 (by rw [HE.out]),by go_grown⟩
theorem zm4 (nm : ByteArray) (sz : Int) (m : Value) (rs : List (Int × Int × Int)) (fx : Bool) (ep : Int) (w : World) (hn : nm.size<=maxLen) (hfit : zb9 rs) (r : ReadsR 3 zak w.heap.size w m rs) :
    Calls Tryz.prog 201 #[.agg #[.string nm,.int .i64 sz,m,.bool fx,.int .i64 ep]] w fun e w'=>e = .returned (.bool (bookOk nm sz rs ep))/\Below w.heap.size w w':=by
  obtain ⟨o,cap,rfl⟩:=r.form;obtain ⟨W0,hW0,k0,d0,z0⟩:=zb4 w #[.string nm,.int .i64 sz,.slice o rs.length cap,.bool fx,.int .i64 ep] 117;have r0:=(r.below d0).mono d0.size;have HW0 : Hid (W0 = _):=hW0;obtain ⟨p0,p1,p2⟩:=cq3 k0;clear hW0 r
  go_enter Tryz.func201,Tryz.ntmps201
  go_wp2_with fail
  rw [<- HW0.out];clear HW0;refine (zeg nm _ hn).mono ?_;rintro e w' ⟨rfl,rfl⟩;cases h1 : Nums.nameB nm.data.toList
  · have HV : Hid (bookOk nm sz rs ep=false):=by simp [Hid,bookOk,h1]
    clear h1 k0
    go_wp2_with fail
    go_ret;exact ⟨za6 HV.out.symm,d0⟩
  have H1 : Hid _:=h1;clear h1
  go_wp2_with fail
  refine (zm2 sz _).mono ?_;rintro e w' ⟨rfl,rfl⟩;cases h2 : (decide (1<=sz) && decide (sz<=16))
  · have HV : Hid (bookOk nm sz rs ep=false):=by simp [Hid,bookOk,h2]
    clear h2 k0
    go_wp2_with fail
    go_ret;exact ⟨za6 HV.out.symm,d0⟩
  have H2 : Hid _:=h2;clear h2
  go_wp2_with fail
  refine (zdf _ rs _ hfit r0).mono ?_;rintro e w1 ⟨rfl,b1⟩;replace k0:=(b1.block _ (by omega)).trans k0;replace d0:=za1 d0 b1;replace r0:=(r0.below b1).mono b1.size;have z1:=b1.size;clear p0 p1 p2 b1;cases h4 : mapOk rs
  · have HV : Hid (bookOk nm sz rs ep=false):=by simp [Hid,bookOk,h4]
    clear h4 k0 r0
    go_wp2_with fail
    go_ret;exact ⟨za6 HV.out.symm,d0⟩
  have p1:=za0 k0 1;have p2:=za0 k0 2;have H4 : Hid _:=h4;clear h4
  go_wp2_with fail
  clear p1 p2;refine (zm3 _ rs sz _ H4.out r0).mono ?_;rintro e w2 ⟨rfl,b1⟩;replace k0:=(b1.block _ (by omega)).trans k0;replace d0:=za1 d0 b1;clear b1 r0;cases h5 : zdr rs sz
  · have HV : Hid (bookOk nm sz rs ep=false):=by simp [Hid,bookOk,h5]
    clear h5 k0
    go_wp2_with fail
    go_ret;exact ⟨za6 HV.out.symm,d0⟩
  have HV : Hid (bookOk nm sz rs ep=(decide (0<=ep) && decide (ep<=1000))):=by rw [Hid,bookOk,H1.out,H2.out,H4.out,h5];simp
  have p4:=za0 k0 4;clear h5 H1 H2 H4 k0
  go_wp2_with fail
  refine (zq4 ep _).mono ?_;rintro e w' ⟨rfl,rfl⟩
  go_wp2_with fail
  go_ret;exact ⟨za6 HV.out.symm,d0⟩
theorem zq5 {w w1 : World} {b : Nat} {x0 x1 x2 x3 x4 : Value} {t : TypeId} (k0 : w1.heap[b]? = some (.cells #[x0,x1,x2,x3,x4] t (0,0))) (hb : w.heap.size<=b) (d0 : Below w.heap.size w w1) (y0 y1 y2 y3 y4 : Value) :
    ((((((w1.setCell ⟨b,0,none⟩ y0).setCell ⟨b,1,none⟩ y1).setCell ⟨b,2,none⟩ y2).setCell ⟨b,3,none⟩ y3).setCell ⟨b,4,none⟩ y4).alloc (.cells #[] 172)).heap[b]? = some (.cells #[y0,y1,y2,y3,y4] t (0,0)) /\
    ((((((w1.setCell ⟨b,0,none⟩ y0).setCell ⟨b,1,none⟩ y1).setCell ⟨b,2,none⟩ y2).setCell ⟨b,3,none⟩ y3).setCell ⟨b,4,none⟩ y4).alloc (.cells #[] 172)).ownsRow w.heap.size 172 3 (.slice (some ⟨w1.heap.size,0,none⟩) 0 0) 0 [] /\
    Below w.heap.size w ((((((w1.setCell ⟨b,0,none⟩ y0).setCell ⟨b,1,none⟩ y1).setCell ⟨b,2,none⟩ y2).setCell ⟨b,3,none⟩ y3).setCell ⟨b,4,none⟩ y4).alloc (.cells #[] 172)):=by
  have h5:=zev k0 y0 y1 y2 y3 y4;have d5:=zny d0 hb y0 y1 y2 y3 y4;have hz : (((((w1.setCell ⟨b,0,none⟩ y0).setCell ⟨b,1,none⟩ y1).setCell ⟨b,2,none⟩ y2).setCell ⟨b,3,none⟩ y3).setCell ⟨b,4,none⟩ y4).heap.size=w1.heap.size:=by simp [World.size_setCell]
  generalize ((((w1.setCell ⟨b,0,none⟩ y0).setCell ⟨b,1,none⟩ y1).setCell ⟨b,2,none⟩ y2).setCell ⟨b,3,none⟩ y3).setCell ⟨b,4,none⟩ y4=W at *;have ho:=zd3 W;rw [hz] at ho;exact ⟨(Below.heap_alloc _ _ _ (za2 h5)).trans h5,zah ho d0.size,za3 d5⟩
theorem zke (nm : ByteArray) (sz : Int) (w : World) (hn : nm.size<=maxLen) (hn2 : nm.size<=1099511627776) :
    Calls Tryz.prog 256 #[.string nm,.int .i64 sz] w fun e w'=>∃ m : Value,e = .returned (.tuple #[.agg #[.string (newName nm sz),.int .i64 (newSize nm sz),m,.bool false,.int .i64 0],.bool (newOk nm sz)])/\w'.ownsRow w.heap.size 172 3 m 0 []/\Below w.heap.size w w':=by
  obtain ⟨W0,hW0,k0,d0,z0⟩:=zb4 w #[.string ⟨#[]⟩,.int .i64 0,.slice none 0 0,.bool false,.int .i64 0] 117;have HW0 : Hid (W0 = _):=hW0;obtain ⟨q0,q1,q2,q3,q4⟩:=cq5 k0;obtain ⟨f0,f1,f2,f3,f4⟩:=oq5 k0;clear hW0
  go_enter Tryz.func256,Tryz.ntmps256
  go_wp2_with fail
  rw [<- HW0.out];clear HW0;refine (zeg nm _ hn).mono ?_;rintro e w' ⟨rfl,rfl⟩;cases h1 : Nums.nameB nm.data.toList
  · have HA : Hid (newName nm sz=ByteArray.empty/\newSize nm sz=0/\newOk nm sz=false):=by simp [Hid,newName,newSize,newOk,h1]
    have HS : Hid _:=And.intro (zev k0 (.string ⟨#[]⟩) (.int .i64 0) (.slice none 0 0) (.bool false) (.int .i64 0)) (zny d0 (Nat.le_refl _) (.string ⟨#[]⟩) (.int .i64 0) (.slice none 0 0) (.bool false) (.int .i64 0));clear k0 d0 h1
    go_wp2_with fail
    exact bodyPost_ret (v:=.tuple #[.agg #[.string ⟨#[]⟩,.int .i64 0,.slice none 0 0,.bool false,.int .i64 0],.bool false]) (by simp [results,Tryz.results256,go_sem,za0 HS.out.1]) rfl ⟨_,by rw [HA.out.1,HA.out.2.1,HA.out.2.2];rfl,World.ownsRow_nil _ _ _ _,HS.out.2⟩
  have H1 : Hid _:=h1;clear h1
  go_wp2_with fail
  refine (zm2 sz _).mono ?_;rintro e w' ⟨rfl,rfl⟩;cases h2 : (decide (1<=sz) && decide (sz<=16))
  · have HA : Hid (newName nm sz=ByteArray.empty/\newSize nm sz=0/\newOk nm sz=false):=by simp [Hid,newName,newSize,newOk,h2]
    have HS : Hid _:=And.intro (zev k0 (.string ⟨#[]⟩) (.int .i64 0) (.slice none 0 0) (.bool false) (.int .i64 0)) (zny d0 (Nat.le_refl _) (.string ⟨#[]⟩) (.int .i64 0) (.slice none 0 0) (.bool false) (.int .i64 0));clear k0 d0 h2
    go_wp2_with fail
    exact bodyPost_ret (v:=.tuple #[.agg #[.string ⟨#[]⟩,.int .i64 0,.slice none 0 0,.bool false,.int .i64 0],.bool false]) (by simp [results,Tryz.results256,go_sem,za0 HS.out.1]) rfl ⟨_,by rw [HA.out.1,HA.out.2.1,HA.out.2.2];rfl,World.ownsRow_nil _ _ _ _,HS.out.2⟩
  have HA : Hid (newName nm sz=nm/\newSize nm sz=sz/\newOk nm sz=true):=by simp [Hid,newName,newSize,newOk,h2,H1.out]
  clear h2 q0 q1 q2 q3 q4 f0 f1 f2 f3 f4
  go_wp2_with fail
  refine (zfv nm _ hn2).mono ?_;rintro e w1 ⟨rfl,b1⟩;replace k0:=(b1.block _ (by omega)).trans k0;replace d0:=za1 d0 b1;obtain ⟨q0,q1,q2,q3,q4⟩:=cq5 k0;obtain ⟨f0,f1,f2,f3,f4⟩:=oq5 k0;have hlt : w.heap.size < w1.heap.size:=za2 k0;have HS : Hid _:=zq5 k0 (Nat.le_refl _) d0 (.string nm) (.int .i64 sz) (.slice (some ⟨w1.heap.size,0,none⟩) 0 0) (.bool false) (.int .i64 0);clear k0 d0 b1
  go_wp2_with fail
  exact bodyPost_ret (v:=.tuple #[.agg #[.string nm,.int .i64 sz,.slice (some ⟨w1.heap.size,0,none⟩) 0 0,.bool false,.int .i64 0],.bool true]) (by simp [results,Tryz.results256,go_sem,za0 HS.out.1]) rfl ⟨_,by rw [HA.out.1,HA.out.2.1,HA.out.2.2],HS.out.2.1,HS.out.2.2⟩
end Go.Proofs.YtfkkapdofjhgpaaGreatDoor
