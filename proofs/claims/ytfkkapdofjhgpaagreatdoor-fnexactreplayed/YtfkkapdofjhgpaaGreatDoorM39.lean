import Derived.Test.YtfkkapdofjhgpaaGreatDoorM21
set_option maxHeartbeats 12800000
namespace Go.Proofs.YtfkkapdofjhgpaaGreatDoor
open Go.RowKit
set_option linter.unusedVariables false
theorem zfh (a b c d tag : Int) (C : Nat) (w : World) (hC : C < 4) :
    Calls Tryz.prog 192 #[.agg #[.int .i64 a,.int .i64 b,.int .i64 c,.int .i64 d],.int .i64 C,.int .i64 tag] w fun e w'=>∃ A B D E : Int,e = .returned (.agg #[.int .i64 A,.int .i64 B,.int .i64 D,.int .i64 E])/\[a,b,c,d].set C tag = [A,B,D,E]/\Below w.heap.size w w':=by
  have h : C=0\/C=1\/C=2\/C=3:=by omega
  rcases h with rfl | rfl | rfl | rfl
  · go_enter Tryz.func192,Tryz.ntmps192
    go_wp2_with fail
    exact bodyPost_ret (v:=.agg #[.int .i64 tag,.int .i64 b,.int .i64 c,.int .i64 d]) (by simp [results,Tryz.results192,go_sem]) rfl ⟨tag,b,c,d,rfl,rfl,by go_grown⟩
  · go_enter Tryz.func192,Tryz.ntmps192
    go_wp2_with fail
    exact bodyPost_ret (v:=.agg #[.int .i64 a,.int .i64 tag,.int .i64 c,.int .i64 d]) (by simp [results,Tryz.results192,go_sem]) rfl ⟨a,tag,c,d,rfl,rfl,by go_grown⟩
  · go_enter Tryz.func192,Tryz.ntmps192
    go_wp2_with fail
    exact bodyPost_ret (v:=.agg #[.int .i64 a,.int .i64 b,.int .i64 tag,.int .i64 d]) (by simp [results,Tryz.results192,go_sem]) rfl ⟨a,b,tag,d,rfl,rfl,by go_grown⟩
  · go_enter Tryz.func192,Tryz.ntmps192
    go_wp2_with fail
    exact bodyPost_ret (v:=.agg #[.int .i64 a,.int .i64 b,.int .i64 c,.int .i64 tag]) (by simp [results,Tryz.results192,go_sem]) rfl ⟨a,b,c,tag,rfl,rfl,by go_grown⟩
set_option maxRecDepth 100000 in
theorem zmz (v1 v2 : Value) (ts : List Int) (rs : List (Int × Int)) (client tag rc rv : Int) (w : World) (r : RM w.heap.size w v1 v2 ts rs) :
    Calls Tryz.prog 172 #[.agg #[v1,v2],.int .i64 client,.int .i64 tag,.agg #[.int .i64 rc,.int .i64 rv]] w fun e w'=>∃ u1 u2 : Value,e = .returned (.tuple #[.agg #[u1,u2],.bool (zee ts rs client tag (rc,rv)).2])/\OwnM w.heap.size w' u1 u2 (zee ts rs client tag (rc,rv)).1.1 (zee ts rs client tag (rc,rv)).1.2/\Below w.heap.size w w':=by
  obtain ⟨o1,cap1,o2,cap2,rfl,rfl⟩:=r.forms;obtain ⟨W0,hW0,k0,k1,k2,d0,z0⟩:=zg0 w #[.slice o1 ts.length cap1,.slice o2 rs.length cap2] #[.int .i64 rc,.int .i64 rv] #[.slice none 0 0,.slice none 0 0] 33 43 33;have HW0 : Hid (W0 = _):=hW0;have r0:=(r.below d0).mono d0.size;have HV : Hid (zee ts rs client tag (rc,rv)=if zdv ts rs=true then (if zdw ts client tag=0/\ze4 rc rv=true then ((ts.set client.toNat tag,rs.set client.toNat (rc,rv)),true) else ((ts,rs),false)) else (([],[]),false)):=rfl;clear hW0 r z0
  go_enter Tryz.func172,Tryz.ntmps172
  go_upto_region 1 with fail
  rw [<- HW0.out];clear HW0;obtain ⟨p0,p1⟩:=cq2 k0
  go_wp2_with fail
  refine (zo7 _ _ ts rs _ r0).mono ?_;rintro e w1 ⟨a,b,c,d,a0,a1,b0,b1,c0,c1,e0,e1,rfl,hts,hb1⟩;have HTS : Hid _:=hts;obtain ⟨W1,hW1,kT,hb2,z1⟩:=zb4 w1 #[.int .i64 a,.int .i64 b,.int .i64 c,.int .i64 d,.int .i64 a0,.int .i64 a1,.int .i64 b0,.int .i64 b1,.int .i64 c0,.int .i64 c1,.int .i64 e0,.int .i64 e1] 195;have HW1 : Hid (W1 = _):=hW1;replace k1:=(hb2.block _ (za2 (kb0 hb1 k1))).trans (kb0 hb1 k1);replace k2:=(hb2.block _ (za2 (kb0 hb1 k2))).trans (kb0 hb1 k2)
  have hnT : w.heap.size+1+1 < w1.heap.size:=by
    have h1:=za2 k2;rw [z1] at h1;rcases Nat.lt_or_ge (w.heap.size+1+1) w1.heap.size with g | g
    · exact g
    · exact absurd (show w.heap.size+1+1=w1.heap.size by omega) (fun e=>by rw [e] at k2;rw [kT] at k2;simp at k2)
  replace d0:=za1 (za1 d0 hb1) hb2;clear hb1 r0 k0 p0 p1 hts hW1 z1 hb2;generalize zdv ts rs=ok at *;cases ok
  · rw [if_neg (by simp)] at HV
    have HS : Hid _:=zen w W1 (.slice none 0 0) (.slice none 0 0) _ _ (w.heap.size+1+1) [] [] (by omega) k2 (OwnM.nil _ _) d0;obtain ⟨q0,q1⟩:=cq2 k2;obtain ⟨f0,f1⟩:=oq2 k2
    go_upto_region 2 with fail
    rw [<- HW1.out];clear HW1 kT k1 k2 d0
    go_wp2_with fail
    exact bodyPost_ret (v:=.tuple #[.agg #[.slice none 0 0,.slice none 0 0],.bool false]) (by simp [results,Tryz.results172,go_sem,za0 HS.out.1]) rfl ⟨_,_,by rw [HV.out],by rw [HV.out];exact HS.out.2⟩
  rw [if_pos rfl] at HV;obtain ⟨hts,hrs⟩:=HTS.out rfl;rw [hts,hrs] at HV;have HTS2 : Hid _:=And.intro hts hrs;clear hts hrs HTS
  go_upto_region 2 with fail
  rw [<- HW1.out];clear HW1;generalize w1.heap.size=nT at *;obtain ⟨p0,p1,p2,p3⟩:=cq4 kT;have hbd:=zti [a,b,c,d] client tag;have HKN : Hid (zdw [a,b,c,d] client tag=0->(0<=client/\client<=3)):=fun h=>(zlg h).1
  clear w1
  go_wp2_with fail
  refine (zlk a b c d client tag _).mono ?_;generalize zdw [a,b,c,d] client tag=kk at *;rintro e w3 ⟨rfl,hb3⟩;replace k1:=kb0 hb3 k1;replace k2:=kb0 hb3 k2;replace kT:=kb0 hb3 kT;replace d0:=za1 d0 hb3;clear hb3 p0 p1 p2 p3 W1;by_cases hk : kk=0
  · subst hk
    obtain ⟨g0,g1⟩:=cq2 k1
    go_wp2_with fail
    refine (zgh rc rv _).mono ?_;generalize ze4 rc rv=bR at *;rintro e w4 ⟨rfl,hb4⟩;replace k1:=kb0 hb4 k1;replace k2:=kb0 hb4 k2;replace kT:=kb0 hb4 kT;replace d0:=za1 d0 hb4;clear hb4 g0 g1 w3;cases bR
    · rw [if_neg (by simp)] at HV
      have y0:=za0 kT 0;have y1:=za0 kT 1;have y2:=za0 kT 2;have y3:=za0 kT 3;have y4:=za0 kT 4;have y5:=za0 kT 5;have y6:=za0 kT 6;have y7:=za0 kT 7;have y8:=za0 kT 8;have y9:=za0 kT 9;have y10:=za0 kT 10;have y11:=za0 kT 11
      go_wp2_with fail
      refine (zf5 a b c d a0 a1 b0 b1 c0 c1 e0 e1 _).mono ?_;rintro e w5 ⟨u1,u2,rfl,own,hb5⟩;obtain ⟨o3,c3,hu1⟩:=za4 own.t;obtain ⟨o4,c4,hu2⟩:=za4 own.r;have hu1' : u1 = .slice o3 4 c3:=hu1;have hu2' : u2 = .slice o4 4 c4:=hu2;subst hu1' hu2';clear hu1 hu2;replace k2:=kb0 hb5 k2;have HS : Hid _:=zen w w5 _ _ _ _ (w.heap.size+1+1) _ _ (by omega) k2 (own.mono d0.size) (za1 d0 hb5);obtain ⟨q0,q1⟩:=cq2 k2;obtain ⟨f0,f1⟩:=oq2 k2;clear own k1 k2 kT hb5 d0 y0 y1 y2 y3 y4 y5 y6 y7 y8 y9 y10 y11
      go_wp2_with fail
      exact bodyPost_ret (v:=.tuple #[.agg #[.slice o3 4 c3,.slice o4 4 c4],.bool false]) (by simp [results,Tryz.results172,go_sem,za0 HS.out.1]) rfl ⟨_,_,by rw [HTS2.out.1,HTS2.out.2,HV.out],by rw [HTS2.out.1,HTS2.out.2,HV.out];exact HS.out.2⟩
    · rw [if_pos (by simp)] at HV
      obtain ⟨⟨hc0,hc3⟩⟩:=And.intro (HKN.out (by simp)) trivial;obtain ⟨C,rfl⟩:=Int.eq_ofNat_of_zero_le hc0;have hC4 : C=0\/C=1\/C=2\/C=3:=by omega
      clear hc0 hc3 HKN hbd;rcases hC4 with rfl | rfl | rfl | rfl
      · have y0:=za0 kT 0
        have y1:=za0 kT 1;have y2:=za0 kT 2;have y3:=za0 kT 3
        go_wp2_with fail
        refine (zfh a b c d tag 0 _ (by decide)).mono ?_;rintro e w5 ⟨A,B,D,E,rfl,hset,hb5⟩;have HSET : Hid _:=hset;replace k1:=kb0 hb5 k1;replace k2:=kb0 hb5 k2;replace kT:=kb0 hb5 kT;replace d0:=za1 d0 hb5;clear hb5 hset y0 y1 y2 y3 w4;obtain ⟨y0,y1,y2,y3⟩:=cq4 kT;obtain ⟨f0,f1,f2,f3⟩:=oq4 kT
        have kT6 : ((((w5.setCell ⟨nT,0,none⟩ (.int .i64 A)).setCell ⟨nT,1,none⟩ (.int .i64 B)).setCell ⟨nT,2,none⟩ (.int .i64 D)).setCell ⟨nT,3,none⟩ (.int .i64 E)).heap[nT]? = some (.cells #[.int .i64 A,.int .i64 B,.int .i64 D,.int .i64 E,.int .i64 a0,.int .i64 a1,.int .i64 b0,.int .i64 b1,.int .i64 c0,.int .i64 c1,.int .i64 e0,.int .i64 e1] 195 (0,0)):=by
          have q:=zab (zab (zab (zab kT 0 (.int .i64 A)) 1 (.int .i64 B)) 2 (.int .i64 D)) 3 (.int .i64 E)
          simpa using q
        have u6 : Upto nT w5 ((((w5.setCell ⟨nT,0,none⟩ (.int .i64 A)).setCell ⟨nT,1,none⟩ (.int .i64 B)).setCell ⟨nT,2,none⟩ (.int .i64 D)).setCell ⟨nT,3,none⟩ (.int .i64 E)):=((((Upto.refl _ _).setCell ⟨nT,0,none⟩ (.inl rfl) _).setCell ⟨nT,1,none⟩ (.inl rfl) _).setCell ⟨nT,2,none⟩ (.inl rfl) _).setCell ⟨nT,3,none⟩ (.inl rfl) _;have k16:=(u6.block _ (za2 k1) (by omega)).trans k1;have k26:=(u6.block _ (za2 k2) (by omega)).trans k2;have d6:=d0.trans (u6.toBelow d0.size (by omega));have HX : Hid _:=And.intro kT6 (And.intro k16 (And.intro k26 d6));clear kT6 u6 k16 k26 d6 kT k1 k2 d0
        go_upto_region 7 with fail
        obtain ⟨kT,k1,k2,d0⟩:=HX.out;clear HX y0 y1 y2 y3 f0 f1 f2 f3;generalize (((w5.setCell ⟨nT,0,none⟩ (.int .i64 A)).setCell ⟨nT,1,none⟩ (.int .i64 B)).setCell ⟨nT,2,none⟩ (.int .i64 D)).setCell ⟨nT,3,none⟩ (.int .i64 E)=w6 at *;have y0:=za0 kT 4;have y1:=za0 kT 5;have f0:=za8 kT 4;have f1:=za8 kT 5;obtain ⟨g0,g1⟩:=cq2 k1
        have kT7 : ((w6.setCell ⟨nT,4,none⟩ (.int .i64 rc)).setCell ⟨nT,5,none⟩ (.int .i64 rv)).heap[nT]? = some (.cells #[.int .i64 A,.int .i64 B,.int .i64 D,.int .i64 E,.int .i64 rc,.int .i64 rv,.int .i64 b0,.int .i64 b1,.int .i64 c0,.int .i64 c1,.int .i64 e0,.int .i64 e1] 195 (0,0)):=by
          have q:=zab (zab kT 4 (.int .i64 rc)) 5 (.int .i64 rv)
          simpa using q
        have u7 : Upto nT w6 ((w6.setCell ⟨nT,4,none⟩ (.int .i64 rc)).setCell ⟨nT,5,none⟩ (.int .i64 rv)):=((Upto.refl _ _).setCell ⟨nT,4,none⟩ (.inl rfl) _).setCell ⟨nT,5,none⟩ (.inl rfl) _;have k27:=(u7.block _ (za2 k2) (by omega)).trans k2;have d7:=d0.trans (u7.toBelow d0.size (by omega));have HX : Hid _:=And.intro kT7 (And.intro k27 d7);clear kT7 u7 k27 d7 kT k1 k2 d0
        go_upto_region 8 with fail
        obtain ⟨kT,k2,d0⟩:=HX.out;clear HX y0 y1 f0 f1 g0 g1;generalize (w6.setCell ⟨nT,4,none⟩ (.int .i64 rc)).setCell ⟨nT,5,none⟩ (.int .i64 rv)=w7 at *;clear w6 w5;have y0:=za0 kT 0;have y1:=za0 kT 1;have y2:=za0 kT 2;have y3:=za0 kT 3;have y4:=za0 kT 4;have y5:=za0 kT 5;have y6:=za0 kT 6;have y7:=za0 kT 7;have y8:=za0 kT 8;have y9:=za0 kT 9;have y10:=za0 kT 10;have y11:=za0 kT 11
        go_wp2_with fail
        refine (zf5 A B D E rc rv b0 b1 c0 c1 e0 e1 _).mono ?_;rintro e w8 ⟨u1,u2,rfl,own,hb8⟩;obtain ⟨o3,c3,hu1⟩:=za4 own.t;obtain ⟨o4,c4,hu2⟩:=za4 own.r;have hu1' : u1 = .slice o3 4 c3:=hu1;have hu2' : u2 = .slice o4 4 c4:=hu2;subst hu1' hu2';clear hu1 hu2;replace k2:=kb0 hb8 k2;have HS : Hid _:=zen w w8 _ _ _ _ (w.heap.size+1+1) _ _ (by omega) k2 (own.mono d0.size) (za1 d0 hb8);obtain ⟨q0,q1⟩:=cq2 k2;obtain ⟨f0,f1⟩:=oq2 k2
        have HVE : Hid (zee ts rs 0 tag (rc,rv)=(([A,B,D,E],[(rc,rv),(b0,b1),(c0,c1),(e0,e1)]),true)):=by
          rw [Hid,HTS2.out.1,HTS2.out.2];refine HV.out.trans ?_;have:=HSET.out;simp only [Prod.mk.injEq,and_true];exact ⟨this,rfl⟩
        clear own k2 kT hb8 d0 y0 y1 y2 y3 y4 y5 y6 y7 y8 y9 y10 y11
        go_wp2_with fail
        exact bodyPost_ret (v:=.tuple #[.agg #[.slice o3 4 c3,.slice o4 4 c4],.bool true]) (by simp [results,Tryz.results172,go_sem,za0 HS.out.1]) rfl ⟨_,_,by have h:=HVE.out;exact congrArg (fun z=>Ending.returned (.tuple #[.agg #[.slice o3 4 c3,.slice o4 4 c4],.bool z.2])) h.symm,by have h:=HVE.out;have h2:=HS.out.2;exact (congrArg (fun z : (List Int × List (Int × Int)) × Bool=>OwnM w.heap.size _ (.slice o3 4 c3) (.slice o4 4 c4) z.1.1 z.1.2) h).mpr h2.1,HS.out.2.2⟩
      · have y0:=za0 kT 0
        have y1:=za0 kT 1;have y2:=za0 kT 2;have y3:=za0 kT 3
        go_wp2_with fail
        refine (zfh a b c d tag 1 _ (by decide)).mono ?_;rintro e w5 ⟨A,B,D,E,rfl,hset,hb5⟩;have HSET : Hid _:=hset;replace k1:=kb0 hb5 k1;replace k2:=kb0 hb5 k2;replace kT:=kb0 hb5 kT;replace d0:=za1 d0 hb5;clear hb5 hset y0 y1 y2 y3 w4;obtain ⟨y0,y1,y2,y3⟩:=cq4 kT;obtain ⟨f0,f1,f2,f3⟩:=oq4 kT
        have kT6 : ((((w5.setCell ⟨nT,0,none⟩ (.int .i64 A)).setCell ⟨nT,1,none⟩ (.int .i64 B)).setCell ⟨nT,2,none⟩ (.int .i64 D)).setCell ⟨nT,3,none⟩ (.int .i64 E)).heap[nT]? = some (.cells #[.int .i64 A,.int .i64 B,.int .i64 D,.int .i64 E,.int .i64 a0,.int .i64 a1,.int .i64 b0,.int .i64 b1,.int .i64 c0,.int .i64 c1,.int .i64 e0,.int .i64 e1] 195 (0,0)):=by
          have q:=zab (zab (zab (zab kT 0 (.int .i64 A)) 1 (.int .i64 B)) 2 (.int .i64 D)) 3 (.int .i64 E)
          simpa using q
        have u6 : Upto nT w5 ((((w5.setCell ⟨nT,0,none⟩ (.int .i64 A)).setCell ⟨nT,1,none⟩ (.int .i64 B)).setCell ⟨nT,2,none⟩ (.int .i64 D)).setCell ⟨nT,3,none⟩ (.int .i64 E)):=((((Upto.refl _ _).setCell ⟨nT,0,none⟩ (.inl rfl) _).setCell ⟨nT,1,none⟩ (.inl rfl) _).setCell ⟨nT,2,none⟩ (.inl rfl) _).setCell ⟨nT,3,none⟩ (.inl rfl) _;have k16:=(u6.block _ (za2 k1) (by omega)).trans k1;have k26:=(u6.block _ (za2 k2) (by omega)).trans k2;have d6:=d0.trans (u6.toBelow d0.size (by omega));have HX : Hid _:=And.intro kT6 (And.intro k16 (And.intro k26 d6));clear kT6 u6 k16 k26 d6 kT k1 k2 d0
        go_upto_region 7 with fail
        obtain ⟨kT,k1,k2,d0⟩:=HX.out;clear HX y0 y1 y2 y3 f0 f1 f2 f3;generalize (((w5.setCell ⟨nT,0,none⟩ (.int .i64 A)).setCell ⟨nT,1,none⟩ (.int .i64 B)).setCell ⟨nT,2,none⟩ (.int .i64 D)).setCell ⟨nT,3,none⟩ (.int .i64 E)=w6 at *;have y0:=za0 kT 6;have y1:=za0 kT 7;have f0:=za8 kT 6;have f1:=za8 kT 7;obtain ⟨g0,g1⟩:=cq2 k1
        have kT7 : ((w6.setCell ⟨nT,6,none⟩ (.int .i64 rc)).setCell ⟨nT,7,none⟩ (.int .i64 rv)).heap[nT]? = some (.cells #[.int .i64 A,.int .i64 B,.int .i64 D,.int .i64 E,.int .i64 a0,.int .i64 a1,.int .i64 rc,.int .i64 rv,.int .i64 c0,.int .i64 c1,.int .i64 e0,.int .i64 e1] 195 (0,0)):=by
          have q:=zab (zab kT 6 (.int .i64 rc)) 7 (.int .i64 rv)
          simpa using q
        have u7 : Upto nT w6 ((w6.setCell ⟨nT,6,none⟩ (.int .i64 rc)).setCell ⟨nT,7,none⟩ (.int .i64 rv)):=((Upto.refl _ _).setCell ⟨nT,6,none⟩ (.inl rfl) _).setCell ⟨nT,7,none⟩ (.inl rfl) _;have k27:=(u7.block _ (za2 k2) (by omega)).trans k2;have d7:=d0.trans (u7.toBelow d0.size (by omega));have HX : Hid _:=And.intro kT7 (And.intro k27 d7);clear kT7 u7 k27 d7 kT k1 k2 d0
        go_upto_region 8 with fail
        obtain ⟨kT,k2,d0⟩:=HX.out;clear HX y0 y1 f0 f1 g0 g1;generalize (w6.setCell ⟨nT,6,none⟩ (.int .i64 rc)).setCell ⟨nT,7,none⟩ (.int .i64 rv)=w7 at *;clear w6 w5;have y0:=za0 kT 0;have y1:=za0 kT 1;have y2:=za0 kT 2;have y3:=za0 kT 3;have y4:=za0 kT 4;have y5:=za0 kT 5;have y6:=za0 kT 6;have y7:=za0 kT 7;have y8:=za0 kT 8;have y9:=za0 kT 9;have y10:=za0 kT 10;have y11:=za0 kT 11
        go_wp2_with fail
        refine (zf5 A B D E a0 a1 rc rv c0 c1 e0 e1 _).mono ?_;rintro e w8 ⟨u1,u2,rfl,own,hb8⟩;obtain ⟨o3,c3,hu1⟩:=za4 own.t;obtain ⟨o4,c4,hu2⟩:=za4 own.r;have hu1' : u1 = .slice o3 4 c3:=hu1;have hu2' : u2 = .slice o4 4 c4:=hu2;subst hu1' hu2';clear hu1 hu2;replace k2:=kb0 hb8 k2;have HS : Hid _:=zen w w8 _ _ _ _ (w.heap.size+1+1) _ _ (by omega) k2 (own.mono d0.size) (za1 d0 hb8);obtain ⟨q0,q1⟩:=cq2 k2;obtain ⟨f0,f1⟩:=oq2 k2
        have HVE : Hid (zee ts rs 1 tag (rc,rv)=(([A,B,D,E],[(a0,a1),(rc,rv),(c0,c1),(e0,e1)]),true)):=by
          rw [Hid,HTS2.out.1,HTS2.out.2];refine HV.out.trans ?_;have:=HSET.out;simp only [Prod.mk.injEq,and_true];exact ⟨this,rfl⟩
        clear own k2 kT hb8 d0 y0 y1 y2 y3 y4 y5 y6 y7 y8 y9 y10 y11
        go_wp2_with fail
        exact bodyPost_ret (v:=.tuple #[.agg #[.slice o3 4 c3,.slice o4 4 c4],.bool true]) (by simp [results,Tryz.results172,go_sem,za0 HS.out.1]) rfl ⟨_,_,by have h:=HVE.out;exact congrArg (fun z=>Ending.returned (.tuple #[.agg #[.slice o3 4 c3,.slice o4 4 c4],.bool z.2])) h.symm,by have h:=HVE.out;have h2:=HS.out.2;exact (congrArg (fun z : (List Int × List (Int × Int)) × Bool=>OwnM w.heap.size _ (.slice o3 4 c3) (.slice o4 4 c4) z.1.1 z.1.2) h).mpr h2.1,HS.out.2.2⟩
      · have y0:=za0 kT 0
        have y1:=za0 kT 1;have y2:=za0 kT 2;have y3:=za0 kT 3
        go_wp2_with fail
        refine (zfh a b c d tag 2 _ (by decide)).mono ?_;rintro e w5 ⟨A,B,D,E,rfl,hset,hb5⟩;have HSET : Hid _:=hset;replace k1:=kb0 hb5 k1;replace k2:=kb0 hb5 k2;replace kT:=kb0 hb5 kT;replace d0:=za1 d0 hb5;clear hb5 hset y0 y1 y2 y3 w4;obtain ⟨y0,y1,y2,y3⟩:=cq4 kT;obtain ⟨f0,f1,f2,f3⟩:=oq4 kT
        have kT6 : ((((w5.setCell ⟨nT,0,none⟩ (.int .i64 A)).setCell ⟨nT,1,none⟩ (.int .i64 B)).setCell ⟨nT,2,none⟩ (.int .i64 D)).setCell ⟨nT,3,none⟩ (.int .i64 E)).heap[nT]? = some (.cells #[.int .i64 A,.int .i64 B,.int .i64 D,.int .i64 E,.int .i64 a0,.int .i64 a1,.int .i64 b0,.int .i64 b1,.int .i64 c0,.int .i64 c1,.int .i64 e0,.int .i64 e1] 195 (0,0)):=by
          have q:=zab (zab (zab (zab kT 0 (.int .i64 A)) 1 (.int .i64 B)) 2 (.int .i64 D)) 3 (.int .i64 E)
          simpa using q
        have u6 : Upto nT w5 ((((w5.setCell ⟨nT,0,none⟩ (.int .i64 A)).setCell ⟨nT,1,none⟩ (.int .i64 B)).setCell ⟨nT,2,none⟩ (.int .i64 D)).setCell ⟨nT,3,none⟩ (.int .i64 E)):=((((Upto.refl _ _).setCell ⟨nT,0,none⟩ (.inl rfl) _).setCell ⟨nT,1,none⟩ (.inl rfl) _).setCell ⟨nT,2,none⟩ (.inl rfl) _).setCell ⟨nT,3,none⟩ (.inl rfl) _;have k16:=(u6.block _ (za2 k1) (by omega)).trans k1;have k26:=(u6.block _ (za2 k2) (by omega)).trans k2;have d6:=d0.trans (u6.toBelow d0.size (by omega));have HX : Hid _:=And.intro kT6 (And.intro k16 (And.intro k26 d6));clear kT6 u6 k16 k26 d6 kT k1 k2 d0
        go_upto_region 7 with fail
        obtain ⟨kT,k1,k2,d0⟩:=HX.out;clear HX y0 y1 y2 y3 f0 f1 f2 f3;generalize (((w5.setCell ⟨nT,0,none⟩ (.int .i64 A)).setCell ⟨nT,1,none⟩ (.int .i64 B)).setCell ⟨nT,2,none⟩ (.int .i64 D)).setCell ⟨nT,3,none⟩ (.int .i64 E)=w6 at *;have y0:=za0 kT 8;have y1:=za0 kT 9;have f0:=za8 kT 8;have f1:=za8 kT 9;obtain ⟨g0,g1⟩:=cq2 k1
        have kT7 : ((w6.setCell ⟨nT,8,none⟩ (.int .i64 rc)).setCell ⟨nT,9,none⟩ (.int .i64 rv)).heap[nT]? = some (.cells #[.int .i64 A,.int .i64 B,.int .i64 D,.int .i64 E,.int .i64 a0,.int .i64 a1,.int .i64 b0,.int .i64 b1,.int .i64 rc,.int .i64 rv,.int .i64 e0,.int .i64 e1] 195 (0,0)):=by
          have q:=zab (zab kT 8 (.int .i64 rc)) 9 (.int .i64 rv)
          simpa using q
        have u7 : Upto nT w6 ((w6.setCell ⟨nT,8,none⟩ (.int .i64 rc)).setCell ⟨nT,9,none⟩ (.int .i64 rv)):=((Upto.refl _ _).setCell ⟨nT,8,none⟩ (.inl rfl) _).setCell ⟨nT,9,none⟩ (.inl rfl) _;have k27:=(u7.block _ (za2 k2) (by omega)).trans k2;have d7:=d0.trans (u7.toBelow d0.size (by omega));have HX : Hid _:=And.intro kT7 (And.intro k27 d7);clear kT7 u7 k27 d7 kT k1 k2 d0
        go_upto_region 8 with fail
        obtain ⟨kT,k2,d0⟩:=HX.out;clear HX y0 y1 f0 f1 g0 g1;generalize (w6.setCell ⟨nT,8,none⟩ (.int .i64 rc)).setCell ⟨nT,9,none⟩ (.int .i64 rv)=w7 at *;clear w6 w5;have y0:=za0 kT 0;have y1:=za0 kT 1;have y2:=za0 kT 2;have y3:=za0 kT 3;have y4:=za0 kT 4;have y5:=za0 kT 5;have y6:=za0 kT 6;have y7:=za0 kT 7;have y8:=za0 kT 8;have y9:=za0 kT 9;have y10:=za0 kT 10;have y11:=za0 kT 11
        go_wp2_with fail
        refine (zf5 A B D E a0 a1 b0 b1 rc rv e0 e1 _).mono ?_;rintro e w8 ⟨u1,u2,rfl,own,hb8⟩;obtain ⟨o3,c3,hu1⟩:=za4 own.t;obtain ⟨o4,c4,hu2⟩:=za4 own.r;have hu1' : u1 = .slice o3 4 c3:=hu1;have hu2' : u2 = .slice o4 4 c4:=hu2;subst hu1' hu2';clear hu1 hu2;replace k2:=kb0 hb8 k2;have HS : Hid _:=zen w w8 _ _ _ _ (w.heap.size+1+1) _ _ (by omega) k2 (own.mono d0.size) (za1 d0 hb8);obtain ⟨q0,q1⟩:=cq2 k2;obtain ⟨f0,f1⟩:=oq2 k2
        have HVE : Hid (zee ts rs 2 tag (rc,rv)=(([A,B,D,E],[(a0,a1),(b0,b1),(rc,rv),(e0,e1)]),true)):=by
          rw [Hid,HTS2.out.1,HTS2.out.2];refine HV.out.trans ?_;have:=HSET.out;simp only [Prod.mk.injEq,and_true];exact ⟨this,rfl⟩
        clear own k2 kT hb8 d0 y0 y1 y2 y3 y4 y5 y6 y7 y8 y9 y10 y11
        go_wp2_with fail
        exact bodyPost_ret (v:=.tuple #[.agg #[.slice o3 4 c3,.slice o4 4 c4],.bool true]) (by simp [results,Tryz.results172,go_sem,za0 HS.out.1]) rfl ⟨_,_,by have h:=HVE.out;exact congrArg (fun z=>Ending.returned (.tuple #[.agg #[.slice o3 4 c3,.slice o4 4 c4],.bool z.2])) h.symm,by have h:=HVE.out;have h2:=HS.out.2;exact (congrArg (fun z : (List Int × List (Int × Int)) × Bool=>OwnM w.heap.size _ (.slice o3 4 c3) (.slice o4 4 c4) z.1.1 z.1.2) h).mpr h2.1,HS.out.2.2⟩
      · have y0:=za0 kT 0
        have y1:=za0 kT 1;have y2:=za0 kT 2;have y3:=za0 kT 3
        go_wp2_with fail
        refine (zfh a b c d tag 3 _ (by decide)).mono ?_;rintro e w5 ⟨A,B,D,E,rfl,hset,hb5⟩;have HSET : Hid _:=hset;replace k1:=kb0 hb5 k1;replace k2:=kb0 hb5 k2;replace kT:=kb0 hb5 kT;replace d0:=za1 d0 hb5;clear hb5 hset y0 y1 y2 y3 w4;obtain ⟨y0,y1,y2,y3⟩:=cq4 kT;obtain ⟨f0,f1,f2,f3⟩:=oq4 kT
        have kT6 : ((((w5.setCell ⟨nT,0,none⟩ (.int .i64 A)).setCell ⟨nT,1,none⟩ (.int .i64 B)).setCell ⟨nT,2,none⟩ (.int .i64 D)).setCell ⟨nT,3,none⟩ (.int .i64 E)).heap[nT]? = some (.cells #[.int .i64 A,.int .i64 B,.int .i64 D,.int .i64 E,.int .i64 a0,.int .i64 a1,.int .i64 b0,.int .i64 b1,.int .i64 c0,.int .i64 c1,.int .i64 e0,.int .i64 e1] 195 (0,0)):=by
          have q:=zab (zab (zab (zab kT 0 (.int .i64 A)) 1 (.int .i64 B)) 2 (.int .i64 D)) 3 (.int .i64 E)
          simpa using q
        have u6 : Upto nT w5 ((((w5.setCell ⟨nT,0,none⟩ (.int .i64 A)).setCell ⟨nT,1,none⟩ (.int .i64 B)).setCell ⟨nT,2,none⟩ (.int .i64 D)).setCell ⟨nT,3,none⟩ (.int .i64 E)):=((((Upto.refl _ _).setCell ⟨nT,0,none⟩ (.inl rfl) _).setCell ⟨nT,1,none⟩ (.inl rfl) _).setCell ⟨nT,2,none⟩ (.inl rfl) _).setCell ⟨nT,3,none⟩ (.inl rfl) _;have k16:=(u6.block _ (za2 k1) (by omega)).trans k1;have k26:=(u6.block _ (za2 k2) (by omega)).trans k2;have d6:=d0.trans (u6.toBelow d0.size (by omega));have HX : Hid _:=And.intro kT6 (And.intro k16 (And.intro k26 d6));clear kT6 u6 k16 k26 d6 kT k1 k2 d0
        go_upto_region 7 with fail
        obtain ⟨kT,k1,k2,d0⟩:=HX.out;clear HX y0 y1 y2 y3 f0 f1 f2 f3;generalize (((w5.setCell ⟨nT,0,none⟩ (.int .i64 A)).setCell ⟨nT,1,none⟩ (.int .i64 B)).setCell ⟨nT,2,none⟩ (.int .i64 D)).setCell ⟨nT,3,none⟩ (.int .i64 E)=w6 at *;have y0:=za0 kT 10;have y1:=za0 kT 11;have f0:=za8 kT 10;have f1:=za8 kT 11;obtain ⟨g0,g1⟩:=cq2 k1
        have kT7 : ((w6.setCell ⟨nT,10,none⟩ (.int .i64 rc)).setCell ⟨nT,11,none⟩ (.int .i64 rv)).heap[nT]? = some (.cells #[.int .i64 A,.int .i64 B,.int .i64 D,.int .i64 E,.int .i64 a0,.int .i64 a1,.int .i64 b0,.int .i64 b1,.int .i64 c0,.int .i64 c1,.int .i64 rc,.int .i64 rv] 195 (0,0)):=by
          have q:=zab (zab kT 10 (.int .i64 rc)) 11 (.int .i64 rv)
          simpa using q
        have u7 : Upto nT w6 ((w6.setCell ⟨nT,10,none⟩ (.int .i64 rc)).setCell ⟨nT,11,none⟩ (.int .i64 rv)):=((Upto.refl _ _).setCell ⟨nT,10,none⟩ (.inl rfl) _).setCell ⟨nT,11,none⟩ (.inl rfl) _;have k27:=(u7.block _ (za2 k2) (by omega)).trans k2;have d7:=d0.trans (u7.toBelow d0.size (by omega));have HX : Hid _:=And.intro kT7 (And.intro k27 d7);clear kT7 u7 k27 d7 kT k1 k2 d0
        go_upto_region 8 with fail
        obtain ⟨kT,k2,d0⟩:=HX.out;clear HX y0 y1 f0 f1 g0 g1;generalize (w6.setCell ⟨nT,10,none⟩ (.int .i64 rc)).setCell ⟨nT,11,none⟩ (.int .i64 rv)=w7 at *;clear w6 w5;have y0:=za0 kT 0;have y1:=za0 kT 1;have y2:=za0 kT 2;have y3:=za0 kT 3;have y4:=za0 kT 4;have y5:=za0 kT 5;have y6:=za0 kT 6;have y7:=za0 kT 7;have y8:=za0 kT 8;have y9:=za0 kT 9;have y10:=za0 kT 10;have y11:=za0 kT 11
        go_wp2_with fail
        refine (zf5 A B D E a0 a1 b0 b1 c0 c1 rc rv _).mono ?_;rintro e w8 ⟨u1,u2,rfl,own,hb8⟩;obtain ⟨o3,c3,hu1⟩:=za4 own.t;obtain ⟨o4,c4,hu2⟩:=za4 own.r;have hu1' : u1 = .slice o3 4 c3:=hu1;have hu2' : u2 = .slice o4 4 c4:=hu2;subst hu1' hu2';clear hu1 hu2;replace k2:=kb0 hb8 k2;have HS : Hid _:=zen w w8 _ _ _ _ (w.heap.size+1+1) _ _ (by omega) k2 (own.mono d0.size) (za1 d0 hb8);obtain ⟨q0,q1⟩:=cq2 k2;obtain ⟨f0,f1⟩:=oq2 k2
        have HVE : Hid (zee ts rs 3 tag (rc,rv)=(([A,B,D,E],[(a0,a1),(b0,b1),(c0,c1),(rc,rv)]),true)):=by
          rw [Hid,HTS2.out.1,HTS2.out.2];refine HV.out.trans ?_;have:=HSET.out;simp only [Prod.mk.injEq,and_true];exact ⟨this,rfl⟩
        clear own k2 kT hb8 d0 y0 y1 y2 y3 y4 y5 y6 y7 y8 y9 y10 y11
        go_wp2_with fail
        exact bodyPost_ret (v:=.tuple #[.agg #[.slice o3 4 c3,.slice o4 4 c4],.bool true]) (by simp [results,Tryz.results172,go_sem,za0 HS.out.1]) rfl ⟨_,_,by have h:=HVE.out;exact congrArg (fun z=>Ending.returned (.tuple #[.agg #[.slice o3 4 c3,.slice o4 4 c4],.bool z.2])) h.symm,by have h:=HVE.out;have h2:=HS.out.2;exact (congrArg (fun z : (List Int × List (Int × Int)) × Bool=>OwnM w.heap.size _ (.slice o3 4 c3) (.slice o4 4 c4) z.1.1 z.1.2) h).mpr h2.1,HS.out.2.2⟩
  · rw [if_neg (fun h=>hk h.1)] at HV
    have hkb : (kk != 0)=true:=by rw [bne_iff_ne];exact hk
    clear hk HKN;have y0:=za0 kT 0;have y1:=za0 kT 1;have y2:=za0 kT 2;have y3:=za0 kT 3;have y4:=za0 kT 4;have y5:=za0 kT 5;have y6:=za0 kT 6;have y7:=za0 kT 7;have y8:=za0 kT 8;have y9:=za0 kT 9;have y10:=za0 kT 10;have y11:=za0 kT 11
    go_wp2_with fail
    refine (zf5 a b c d a0 a1 b0 b1 c0 c1 e0 e1 _).mono ?_;rintro e w5 ⟨u1,u2,rfl,own,hb5⟩;obtain ⟨o3,c3,hu1⟩:=za4 own.t;obtain ⟨o4,c4,hu2⟩:=za4 own.r;have hu1' : u1 = .slice o3 4 c3:=hu1;have hu2' : u2 = .slice o4 4 c4:=hu2;subst hu1' hu2';clear hu1 hu2;replace k2:=kb0 hb5 k2;have HS : Hid _:=zen w w5 _ _ _ _ (w.heap.size+1+1) _ _ (by omega) k2 (own.mono d0.size) (za1 d0 hb5);obtain ⟨q0,q1⟩:=cq2 k2;obtain ⟨f0,f1⟩:=oq2 k2;clear own k1 k2 kT hb5 d0 y0 y1 y2 y3 y4 y5 y6 y7 y8 y9 y10 y11
    go_wp2_with fail
    exact bodyPost_ret (v:=.tuple #[.agg #[.slice o3 4 c3,.slice o4 4 c4],.bool false]) (by simp [results,Tryz.results172,go_sem,za0 HS.out.1]) rfl ⟨_,_,by rw [HTS2.out.1,HTS2.out.2,HV.out],by rw [HTS2.out.1,HTS2.out.2,HV.out];exact HS.out.2⟩
end Go.Proofs.YtfkkapdofjhgpaaGreatDoor
