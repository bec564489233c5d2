import Derived.Test.YtfkkapdofjhgpaaGreatDoorM03
import Derived.Test.YtfkkapdofjhgpaaGreatDoorM04
import Derived.Test.YtfkkapdofjhgpaaGreatDoorM09
import Derived.Test.YtfkkapdofjhgpaaGreatDoorM19
set_option maxHeartbeats 12800000
namespace Go.Proofs.YtfkkapdofjhgpaaGreatDoor
open Go.RowKit
set_option linter.unusedVariables false
set_option maxRecDepth 100000
theorem zdc (v1 v2 : Value) (cs ps : List Int) (w : World) (hc : cs.length<=1048576) (hp : ps.length<=1048576) (h1 : Reads w.heap.size w v1 (cs.map (Value.int .i64))) (h2 : Reads w.heap.size w v2 (ps.map (Value.int .i64))) :
    Calls Tryz.prog 213 #[.agg #[v1,v2]] w fun e w'=>∃ u1 u2 : Value,e = .returned (.agg #[u1,u2])/\OwnP w.heap.size w' u1 u2 cs ps/\Below w.heap.size w w':=by
  obtain ⟨W0,hW0,k0,k1,d0,z0⟩:=zex w v1 v2;have r1 : Reads W0.drew.heap.size W0.drew v1 (cs.map (Value.int .i64)):=((h1.below d0).mono d0.size).below ((Below.refl _ _).drew);have r2 : Reads W0.drew.heap.size W0.drew v2 (ps.map (Value.int .i64)):=((h2.below d0).mono d0.size).below ((Below.refl _ _).drew)
  have S0 : W0.drew.cell? ⟨w.heap.size,0,none⟩=some v1/\W0.drew.cell? ⟨w.heap.size,1,none⟩=some v2:=⟨za0 k0 0,za0 k0 1⟩
  have HW0 : Hid (W0 = _):=hW0;clear hW0 h1 h2
  go_enter Tryz.func213,Tryz.ntmps213
  go_wp2_with fail
  rw [<- HW0.out];clear HW0;obtain ⟨S00,S01⟩:=S0
  go_region_law (go_simp;go_at_call 195;first
      | (have q25:=r25;clear q25;refine (zef v2 ps _ hp r25).mono ?_;rintro e w6 ⟨v6,rfl,own6,hn6,b6⟩;obtain ⟨o6,c6,rfl⟩:=za4 own6;have k60:=kb0 b6 k50;have k61:=kb0 b6 k51;have S60:=za0 k60 0;have S61:=za0 k60 1;have q0:=za0 k61 0;have q1:=za0 k61 1;have f0:=za8 k61 0;have f1:=za8 k61 1;dsimp only)
      | (refine (zef v1 cs _ hc r1).mono ?_;rintro e w5 ⟨v5,rfl,own5,hn5,b5⟩;obtain ⟨o5,c5,rfl⟩:=za4 own5;have k50:=(b5.block _ (show w.heap.size < W0.heap.size by omega)).trans k0;have k51:=(b5.block _ (show w.heap.size+1 < W0.heap.size by omega)).trans k1;have S50:=za0 k50 0;have S51:=za0 k50 1;have r25:=(r2.below b5).mono b5.size;dsimp only))
  all_goals
    have HS : Hid _:=zp8 d0 z0 own5 b5 own6 b6 k61;clear own5 own6 b5 b6 k50 k51 k60 k61 S50 S51 S60 S61 q0 q1 f0 f1 r25 r1 r2 S00 S01 k0 k1 hn5 hn6
    go_wp2_with fail
    exact bodyPost_ret (v:=.agg #[.slice o5 cs.length c5,.slice o6 ps.length c6]) (by simp [results,Tryz.results213,go_sem,za0 HS.out.1]) rfl ⟨_,_,rfl,HS.out.2⟩
theorem ze1 (v1 v2 : Value) (cs ps : List Int) (k : Nat) (c p : Int) (w : World) (cs' ps' : List Int) (hcs : Hid (cs.set k c=cs')) (hps : Hid (ps.set k p=ps')) (hc : cs.length<=1048576) (hp : ps.length<=1048576) (hk1 : k < cs.length) (hk2 : k < ps.length) (h1 : Reads w.heap.size w v1 (cs.map (Value.int .i64))) (h2 : Reads w.heap.size w v2 (ps.map (Value.int .i64))) :
    Calls Tryz.prog 259 #[.agg #[v1,v2],.int .i64 k,.int .i64 c,.int .i64 p] w fun e w'=>∃ u1 u2 : Value,e = .returned (.agg #[u1,u2])/\OwnP w.heap.size w' u1 u2 cs' ps'/\Below w.heap.size w w':=by
  obtain ⟨W0,hW0,k0,k1,d0,z0⟩:=zex w v1 v2;have r1 : Reads W0.drew.heap.size W0.drew v1 (cs.map (Value.int .i64)):=((h1.below d0).mono d0.size).below ((Below.refl _ _).drew);have r2 : Reads W0.drew.heap.size W0.drew v2 (ps.map (Value.int .i64)):=((h2.below d0).mono d0.size).below ((Below.refl _ _).drew)
  have S0 : W0.drew.cell? ⟨w.heap.size,0,none⟩=some v1/\W0.drew.cell? ⟨w.heap.size,1,none⟩=some v2:=⟨za0 k0 0,za0 k0 1⟩
  have HW0 : Hid (W0 = _):=hW0;clear hW0 h1 h2
  go_enter Tryz.func259,Tryz.ntmps259
  go_wp2_with fail
  rw [<- HW0.out];clear HW0;obtain ⟨S00,S01⟩:=S0
  go_region_law (go_simp;go_at_call 278;first
      | (have q25:=r25;clear q25;refine (zh1 v2 ps k p _ hk2 hp r25).mono ?_;rw [hps.out];rintro e w6 ⟨v6,rfl,own6,hn6,b6⟩;obtain ⟨o6,c6,rfl⟩:=za4 own6;have k60:=kb0 b6 k50;have k61:=kb0 b6 k51;have S60:=za0 k60 0;have S61:=za0 k60 1;have q0:=za0 k61 0;have q1:=za0 k61 1;have f0:=za8 k61 0;have f1:=za8 k61 1;dsimp only)
      | (refine (zh1 v1 cs k c _ hk1 hc r1).mono ?_;rw [hcs.out];rintro e w5 ⟨v5,rfl,own5,hn5,b5⟩;obtain ⟨o5,c5,rfl⟩:=za4 own5;have k50:=(b5.block _ (show w.heap.size < W0.heap.size by omega)).trans k0;have k51:=(b5.block _ (show w.heap.size+1 < W0.heap.size by omega)).trans k1;have S50:=za0 k50 0;have S51:=za0 k50 1;have r25:=(r2.below b5).mono b5.size;dsimp only))
  all_goals
    have HS : Hid _:=zp8 d0 z0 own5 b5 own6 b6 k61;clear own5 own6 b5 b6 k50 k51 k60 k61 S50 S51 S60 S61 q0 q1 f0 f1 r25 r1 r2 S00 S01 k0 k1 hn5 hn6
    go_wp2_with fail
    exact bodyPost_ret (v:=.agg #[.slice o5 cs'.length c5,.slice o6 ps'.length c6]) (by simp [results,Tryz.results259,go_sem,za0 HS.out.1]) rfl ⟨_,_,rfl,HS.out.2⟩
theorem zmq (v1 v2 : Value) (cs ps : List Int) (v : Int) (w : World) (h1 : Reads w.heap.size w v1 (cs.map (Value.int .i64))) (h2 : Reads w.heap.size w v2 (ps.map (Value.int .i64))) :
    Calls Tryz.prog 260 #[.agg #[v1,v2],.int .i64 v] w fun e w'=>∃ u1 u2 : Value,e = .returned (.tuple #[.agg #[u1,u2],.int .i64 (takenPage cs ps v).2])/\OwnP w.heap.size w' u1 u2 (takenPage cs ps v).1.1 (takenPage cs ps v).1.2/\Below w.heap.size w w':=by
  obtain ⟨W0,hW0,k0,k1,d0,z0⟩:=zex w v1 v2;have r1:=(h1.below d0).mono d0.size;have r2:=(h2.below d0).mono d0.size;obtain ⟨p0,p1⟩:=cq2 k0;have HW0 : Hid (W0 = _):=hW0;clear hW0 h1 h2
  go_enter Tryz.func260,Tryz.ntmps260
  go_wp2_with fail
  rw [<- HW0.out];clear HW0;refine (zdz v1 v2 cs ps _ r1 r2).mono ?_;rintro e w1 ⟨rfl,b1⟩;replace k0:=(b1.block _ (by omega)).trans k0;replace k1:=(b1.block _ (by omega)).trans k1;replace r1:=(r1.below b1).mono b1.size;replace r2:=(r2.below b1).mono b1.size;replace d0:=za1 d0 b1;have z1 : w.heap.size+1+1<=w1.heap.size:=by have:=b1.size;omega
  clear p0 p1 b1 z0;cases hok : poolOk cs ps
  · have HV : Hid (takenPage cs ps v=(([],[]),-1)):=by simp [Hid,takenPage,hok]
    obtain ⟨q0,q1⟩:=cq2 k1;obtain ⟨f0,f1⟩:=oq2 k1;have HS : Hid _:=zcd w w1 (.slice none 0 0) (.slice none 0 0) _ _ (w.heap.size+1) [] [] (by omega) k1 (OwnP.nil _ _) d0;clear k0 k1 r1 r2 hok
    go_wp2_with fail
    refine bodyPost_ret (v:=.tuple #[.agg #[.slice none 0 0,.slice none 0 0],.int .i64 (-1)]) (by simp [results,Tryz.results260,go_sem,za0 HS.out.1]) rfl ⟨.slice none 0 0,.slice none 0 0,by rw [HV.out],by rw [HV.out];exact HS.out.2.1,HS.out.2.2⟩
  · have hb:=(poolOk_iff cs ps).1 hok
    have HP : Hid (ps.length=cs.length):=hb.2.2.1;have hlc : cs.length<=1048576:=by omega
    have hlp : ps.length<=1048576:=by omega
    have hc1 : 1<=cs.length:=hb.1;have HOK : Hid (poolOk cs ps=true):=hok;obtain ⟨p0,p1⟩:=cq2 k0;clear hok hb
    go_wp2_with fail
    refine (ztq v1 cs _ r1).mono ?_;rintro e w2 ⟨rfl,rfl⟩
    have none : takenPage cs ps v=((cs,ps),-1)->∀ (u1 u2 : Value) (w3 : World),OwnP w2.heap.size w3 u1 u2 cs ps->Below w2.heap.size w2 w3->Hid (takenPage cs ps v=((cs,ps),-1)/\w3.heap[w.heap.size+1]? = some (.cells #[.slice none 0 0,.slice none 0 0] 27 (0,0)) /\
        (((w3.setCell ⟨w.heap.size+1,0,none⟩ u1).setCell ⟨w.heap.size+1,1,none⟩ u2).heap[w.heap.size+1]? = some (.cells #[u1,u2] 27 (0,0))/\OwnP w.heap.size ((w3.setCell ⟨w.heap.size+1,0,none⟩ u1).setCell ⟨w.heap.size+1,1,none⟩ u2) u1 u2 cs ps/\Below w.heap.size w ((w3.setCell ⟨w.heap.size+1,0,none⟩ u1).setCell ⟨w.heap.size+1,1,none⟩ u2))):=fun hv u1 u2 w3 own b=>by
      have k13:=(b.block _ (by omega)).trans k1;exact ⟨hv,k13,zcd w w3 u1 u2 _ _ (w.heap.size+1) cs ps (by omega) k13 (own.mono z1) (za1 d0 b)⟩
    have HNone : Hid _:=none;clear none;by_cases hf : zaf cs < cs.length
    · have ht : tookAt cs=(zaf cs : Int):=by rw [tookAt,if_pos hf]
      rw [ht];have hf0 : (0 : Int)<=(zaf cs : Int):=by omega
      have HF : Hid (takenPage cs ps v=if 0<=v/\v<=999 then ((cs.set (zaf cs) 1,ps.set (zaf cs) v),(zaf cs : Int)) else ((cs,ps),-1)):=by
        rw [Hid,takenPage,if_pos HOK.out];by_cases hv : 0<=v/\v<=999
        · rw [if_pos ⟨hf,hv⟩,if_pos hv]
        · rw [if_neg (fun q=>hv q.2),if_neg hv]
      generalize zaf cs=q at *;clear ht
      go_wp2_with fail
      refine (zfd v _).mono ?_;rintro e w3 ⟨rfl,rfl⟩;cases hv : (decide (0<=v) && decide (v<=999))
      · have hv2 : takenPage cs ps v=((cs,ps),-1):=by rw [HF.out,if_neg (by simp at hv;omega)]
        have HNone2 : Hid _:=HNone.out hv2;clear HNone hv2 HF
        go_wp2_with fail
        refine (zdc v1 v2 cs ps _ hlc hlp r1 r2).mono ?_;rintro e w4 ⟨u1,u2,rfl,own,b⟩;obtain ⟨o1,c1,rfl⟩:=za4 own.c;obtain ⟨o2,c2,rfl⟩:=za4 own.p;have HS:=HNone2.out _ _ w4 own b;obtain ⟨q0,q1⟩:=cq2 HS.out.2.1;obtain ⟨f0,f1⟩:=oq2 HS.out.2.1;clear own b HNone2 k0 k1 r1 r2 p0 p1
        go_wp2_with fail
        exact bodyPost_ret (v:=.tuple #[.agg #[.slice o1 cs.length c1,.slice o2 ps.length c2],.int .i64 (-1)]) (by simp [results,Tryz.results260,go_sem,za0 HS.out.2.2.1]) rfl ⟨.slice o1 cs.length c1,.slice o2 ps.length c2,by rw [HS.out.1],by rw [HS.out.1];exact HS.out.2.2.2.1,HS.out.2.2.2.2⟩
      · obtain ⟨cs',hcs⟩ : ∃ x,cs.set q 1=x:=⟨_,rfl⟩
        obtain ⟨ps',hps⟩ : ∃ x,ps.set q v=x:=⟨_,rfl⟩
        have HV : Hid (takenPage cs ps v=((cs',ps'),(q : Int))):=by rw [Hid,HF.out,if_pos (by simpa using hv),hcs,hps]
        have HCS : Hid _:=hcs;have HPS : Hid _:=hps;clear hcs hps;have hq2 : q < ps.length:=by rw [HP.out];exact hf
        clear HNone HF
        go_wp2_with fail
        refine (ze1 v1 v2 cs ps q 1 v _ cs' ps' HCS HPS hlc hlp hf hq2 r1 r2).mono ?_;rintro e w4 ⟨u1,u2,rfl,own,b⟩;obtain ⟨o1,c1,rfl⟩:=za4 own.c;obtain ⟨o2,c2,rfl⟩:=za4 own.p;have k14:=(b.block _ (by omega)).trans k1;have HS : Hid _:=zcd w w4 _ _ _ _ (w.heap.size+1) _ _ (by omega) k14 (own.mono z1) (za1 d0 b);obtain ⟨q0,q1⟩:=cq2 k14;obtain ⟨f0,f1⟩:=oq2 k14;clear own b k0 k1 r1 r2 p0 p1 k14
        go_wp2_with fail
        exact bodyPost_ret (v:=.tuple #[.agg #[.slice o1 cs'.length c1,.slice o2 ps'.length c2],.int .i64 q]) (by simp [results,Tryz.results260,go_sem,za0 HS.out.1]) rfl ⟨.slice o1 cs'.length c1,.slice o2 ps'.length c2,by rw [HV.out],by rw [HV.out];exact HS.out.2.1,HS.out.2.2⟩
    · have ht : tookAt cs = -1:=by rw [tookAt,if_neg hf]
      rw [ht];have hv2 : takenPage cs ps v=((cs,ps),-1):=by rw [takenPage,if_pos HOK.out,if_neg (fun q=>hf q.1)]
      have HNone2 : Hid _:=HNone.out hv2;clear HNone hv2 ht hf
      go_wp2_with fail
      refine (zdc v1 v2 cs ps _ hlc hlp r1 r2).mono ?_;rintro e w4 ⟨u1,u2,rfl,own,b⟩;obtain ⟨o1,c1,rfl⟩:=za4 own.c;obtain ⟨o2,c2,rfl⟩:=za4 own.p;have HS:=HNone2.out _ _ w4 own b;obtain ⟨q0,q1⟩:=cq2 HS.out.2.1;obtain ⟨f0,f1⟩:=oq2 HS.out.2.1;clear own b HNone2 k0 k1 r1 r2 p0 p1
      go_wp2_with fail
      exact bodyPost_ret (v:=.tuple #[.agg #[.slice o1 cs.length c1,.slice o2 ps.length c2],.int .i64 (-1)]) (by simp [results,Tryz.results260,go_sem,za0 HS.out.2.2.1]) rfl ⟨.slice o1 cs.length c1,.slice o2 ps.length c2,by rw [HS.out.1],by rw [HS.out.1];exact HS.out.2.2.2.1,HS.out.2.2.2.2⟩
theorem zgi (v1 v2 : Value) (cs ps : List Int) (at_ : Int) (w : World) (h1 : Reads w.heap.size w v1 (cs.map (Value.int .i64))) (h2 : Reads w.heap.size w v2 (ps.map (Value.int .i64))) :
    Calls Tryz.prog 261 #[.agg #[v1,v2],.int .i64 at_] w fun e w'=>∃ u1 u2 : Value,e = .returned (.tuple #[.agg #[u1,u2],.bool (dropped cs ps at_).2])/\OwnP w.heap.size w' u1 u2 (dropped cs ps at_).1.1 (dropped cs ps at_).1.2/\Below w.heap.size w w':=by
  obtain ⟨W0,hW0,k0,k1,d0,z0⟩:=zex w v1 v2;have r1:=(h1.below d0).mono d0.size;have r2:=(h2.below d0).mono d0.size;obtain ⟨p0,p1⟩:=cq2 k0;have HW0 : Hid (W0 = _):=hW0;clear hW0 h1 h2
  go_enter Tryz.func261,Tryz.ntmps261
  go_wp2_with fail
  rw [<- HW0.out];clear HW0;refine (zdz v1 v2 cs ps _ r1 r2).mono ?_;rintro e w1 ⟨rfl,b1⟩;replace k0:=(b1.block _ (by omega)).trans k0;replace k1:=(b1.block _ (by omega)).trans k1;replace r1:=(r1.below b1).mono b1.size;replace r2:=(r2.below b1).mono b1.size;replace d0:=za1 d0 b1;have z1 : w.heap.size+1+1<=w1.heap.size:=by have:=b1.size;omega
  clear p0 p1 b1 z0;cases hok : poolOk cs ps
  · have HV : Hid (dropped cs ps at_=(([],[]),false)):=by simp [Hid,dropped,hok]
    obtain ⟨q0,q1⟩:=cq2 k1;obtain ⟨f0,f1⟩:=oq2 k1;have HS : Hid _:=zcd w w1 (.slice none 0 0) (.slice none 0 0) _ _ (w.heap.size+1) [] [] (by omega) k1 (OwnP.nil _ _) d0;clear k0 k1 r1 r2 hok
    go_wp2_with fail
    exact bodyPost_ret (v:=.tuple #[.agg #[.slice none 0 0,.slice none 0 0],.bool false]) (by simp [results,Tryz.results261,go_sem,za0 HS.out.1]) rfl ⟨.slice none 0 0,.slice none 0 0,by rw [HV.out],by rw [HV.out];exact HS.out.2.1,HS.out.2.2⟩
  · have hb:=(poolOk_iff cs ps).1 hok
    have HP : Hid (ps.length=cs.length):=hb.2.2.1;have hlc : cs.length<=1048576:=by omega
    have hlp : ps.length<=1048576:=by omega
    have hc1 : 1<=cs.length:=hb.1;have HOK : Hid (poolOk cs ps=true):=hok;have HB : Hid (∀ j,j < cs.length->zcc (cs.getD j 0) (ps.getD j 0)=true):=hb.2.2.2;obtain ⟨p0,p1⟩:=cq2 k0;clear hok hb
    go_wp2_with fail
    refine (zfe v1 v2 cs at_ _ r1).mono ?_;rintro e w2 ⟨rfl,b2⟩;replace k0:=kb0 b2 k0;replace k1:=kb0 b2 k1;replace r1:=(r1.below b2).mono b2.size;replace r2:=(r2.below b2).mono b2.size;replace d0:=za1 d0 b2;replace z1:=Nat.le_trans z1 b2.size;clear p0 p1 b2;obtain ⟨p0,p1⟩:=cq2 k0;by_cases hcnt : zas cs at_ < 1
    · have HV : Hid (dropped cs ps at_=((cs,ps),false)):=by rw [Hid,dropped,if_pos HOK.out,if_neg (by omega)]
      generalize zas cs at_=n at hcnt ⊢
      go_wp2_with fail
      refine (zdc v1 v2 cs ps _ hlc hlp r1 r2).mono ?_;rintro e w4 ⟨u1,u2,rfl,own,b⟩;obtain ⟨o1,c1,rfl⟩:=za4 own.c;obtain ⟨o2,c2,rfl⟩:=za4 own.p;have k14:=kb0 b k1;have HS : Hid _:=zcd w w4 _ _ _ _ (w.heap.size+1) _ _ (by omega) k14 (own.mono z1) (za1 d0 b);obtain ⟨q0,q1⟩:=cq2 k14;obtain ⟨f0,f1⟩:=oq2 k14;clear own b k0 k1 r1 r2 p0 p1 k14
      go_wp2_with fail
      exact bodyPost_ret (v:=.tuple #[.agg #[.slice o1 cs.length c1,.slice o2 ps.length c2],.bool false]) (by simp [results,Tryz.results261,go_sem,za0 HS.out.1]) rfl ⟨.slice o1 cs.length c1,.slice o2 ps.length c2,by rw [HV.out],by rw [HV.out];exact HS.out.2.1,HS.out.2.2⟩
    · have hcn : 1<=zas cs at_:=by omega
      obtain ⟨k,rfl,hk,hce⟩:=zjm cs at_ (by omega);have hk2 : k < ps.length:=by rw [HP.out];exact hk
      obtain ⟨o2,cap2,rfl,m2,c2',hroom2⟩:=r2;obtain ⟨g2,off2,rfl,hg2,cc2⟩:=c2' k _ (getD_some ps k hk2);have hl0 : (ps.map (Value.int .i64)).length=ps.length:=by simp
      have r2 : Reads w2.heap.size w2 (.slice (some ⟨g2,off2,none⟩) (ps.map (Value.int .i64)).length cap2) (ps.map (Value.int .i64)):=⟨_,_,rfl,m2,c2',hroom2⟩
      rw [hl0] at k0 r2 p0 p1;have cck:=(cellOk_iff _ _).1 (HB.out k hk);have i0 : (0 : Int)<=(k : Int):=by omega
      have i1 : (k : Int) < (ps.length : Int):=by omega
      clear m2 c2' hroom2 hl0 hcnt HB;have HV : Hid (dropped cs ps (k : Int)=((cs.set k (zas cs (k : Int) - 1),if zas cs (k : Int)=1 then ps.set k 0 else ps),true)):=by rw [Hid,dropped,if_pos HOK.out,if_pos hcn,Int.toNat_natCast]
      have hn4 : zas cs (k : Int)<=400:=by omega
      generalize zas cs (k : Int)=n at *
      obtain ⟨cs',hcs⟩ : ∃ x,cs.set k (n - 1)=x:=⟨_,rfl⟩
      have HPS0 : Hid (ps.set k (ps.getD k 0)=ps):=zib ps k;rw [hcs] at HV;have HCS : Hid _:=hcs;clear hcs hce cck;generalize ps.getD k 0=y at *;have hcn3 : ¬ n < 1:=by omega
      by_cases hn1 : n=1
      · obtain ⟨ps',hps⟩ : ∃ x,ps.set k 0=x:=⟨_,rfl⟩
        rw [if_pos hn1,hps] at HV;have HPS : Hid _:=hps;subst hn1;clear hps HPS0
        go_wp2_with fail
        refine (ze1 v1 _ cs ps k 0 0 _ cs' ps' HCS HPS hlc hlp hk hk2 r1 r2).mono ?_;rintro e w5 ⟨u1,u2,rfl,own5,b5⟩;obtain ⟨o1,c1,rfl⟩:=za4 own5.c;obtain ⟨o3,c3,rfl⟩:=za4 own5.p;have k51:=kb0 b5 k1;obtain ⟨q0,q1⟩:=cq2 k51;obtain ⟨f0,f1⟩:=oq2 k51;have HS : Hid _:=zcd w w5 _ _ _ _ (w.heap.size+1) _ _ (by omega) k51 (own5.mono z1) (za1 d0 b5);clear own5 b5 k51 k0 k1 r1 r2
        go_wp2_with fail
        exact bodyPost_ret (v:=.tuple #[.agg #[.slice o1 cs'.length c1,.slice o3 ps'.length c3],.bool true]) (by simp [results,Tryz.results261,go_sem,za0 HS.out.1]) rfl ⟨.slice o1 cs'.length c1,.slice o3 ps'.length c3,by rw [HV.out],by rw [HV.out];exact HS.out.2.1,HS.out.2.2⟩
      · rw [if_neg hn1] at HV
        have hn2 : (n == 1)=false:=by simpa using hn1
        go_wp2_with fail
        refine (ze1 v1 _ cs ps k (n - 1) y _ cs' ps HCS HPS0 hlc hlp hk hk2 r1 r2).mono ?_;rintro e w5 ⟨u1,u2,rfl,own5,b5⟩;obtain ⟨o1,c1,rfl⟩:=za4 own5.c;obtain ⟨o3,c3,rfl⟩:=za4 own5.p;have k51:=kb0 b5 k1;obtain ⟨q0,q1⟩:=cq2 k51;obtain ⟨f0,f1⟩:=oq2 k51;have HS : Hid _:=zcd w w5 _ _ _ _ (w.heap.size+1) _ _ (by omega) k51 (own5.mono z1) (za1 d0 b5);clear own5 b5 k51 k0 k1 r1 r2
        go_wp2_with fail
        exact bodyPost_ret (v:=.tuple #[.agg #[.slice o1 cs'.length c1,.slice o3 ps.length c3],.bool true]) (by simp [results,Tryz.results261,go_sem,za0 HS.out.1]) rfl ⟨.slice o1 cs'.length c1,.slice o3 ps.length c3,by rw [HV.out],by rw [HV.out];exact HS.out.2.1,HS.out.2.2⟩
def ze2 (r : Int × Int × Int) : Bool:=decide (0<=r.1) && decide (1<=r.2.1) && decide (r.2.1<=16 - r.1) && decide (0<=r.2.2) && decide (r.2.1<=24 - r.2.2)
theorem zcs (f c p : Int) : ze2 (f,c,p)=true ↔ 0<=f/\1<=c/\c<=16 - f/\0<=p/\c<=24 - p:=by
  simp only [ze2,Bool.and_eq_true,decide_eq_true_eq]
  omega
theorem zpz (f c p : Int) (h : ¬ (0<=f/\1<=c/\c<=16 - f/\0<=p/\c<=24 - p)) : ze2 (f,c,p)=false:=by
  rw [Bool.eq_false_iff];exact fun q=>h ((zcs f c p).1 q)
theorem zmr (f c p : Int) (w : World) (hf : f<=9223372036854775807) (hp : p<=9223372036854775807) :
    Calls Tryz.prog 326 #[.agg #[.int .i64 f,.int .i64 c,.int .i64 p]] w fun e w'=>e = .returned (.bool (ze2 (f,c,p)))/\Below w.heap.size w w':=by
  have HNO : Hid (∀ h : ¬ (0<=f/\1<=c/\c<=16 - f/\0<=p/\c<=24 - p),ze2 (f,c,p)=false):=zpz f c p;by_cases h1 : 0<=f
  · by_cases h2 : 1<=c
    · have e1 : IntKind.i64.wrap (16 - f)=16 - f:=by rw [IntKind.wrap_i64];omega
      by_cases h3 : c<=16 - f
      · by_cases h4 : 0<=p
        · have e2 : IntKind.i64.wrap (24 - p)=24 - p:=by rw [IntKind.wrap_i64];omega
          by_cases h5 : c<=24 - p
          · have HV : Hid (ze2 (f,c,p)=true):=(zcs f c p).2 ⟨h1,h2,h3,h4,h5⟩
            go_enter Tryz.func326,Tryz.ntmps326
            go_wp2
            go_ret;exact ⟨za6 HV.out.symm,za3 (Below.refl _ _)⟩
          · have HV:=HNO.out (fun q=>h5 q.2.2.2.2)
            have HH : Hid _:=HV;clear HV
            go_enter Tryz.func326,Tryz.ntmps326
            go_wp2
            go_ret;exact ⟨za6 HH.out.symm,za3 (Below.refl _ _)⟩
        · have HH : Hid _:=HNO.out (fun q=>h4 q.2.2.2.1)
          go_enter Tryz.func326,Tryz.ntmps326
          go_wp2
          go_ret;exact ⟨za6 HH.out.symm,za3 (Below.refl _ _)⟩
      · have HH : Hid _:=HNO.out (fun q=>h3 q.2.2.1)
        go_enter Tryz.func326,Tryz.ntmps326
        go_wp2
        go_ret;exact ⟨za6 HH.out.symm,za3 (Below.refl _ _)⟩
    · have HH : Hid _:=HNO.out (fun q=>h2 q.2.1)
      go_enter Tryz.func326,Tryz.ntmps326
      go_wp2
      go_ret;exact ⟨za6 HH.out.symm,za3 (Below.refl _ _)⟩
  · have HH : Hid _:=HNO.out (fun q=>h1 q.1)
    go_enter Tryz.func326,Tryz.ntmps326
    go_wp2
    go_ret;exact ⟨za6 HH.out.symm,za3 (Below.refl _ _)⟩
theorem zhr (f c p f' c' p' : Int) (w : World) (h : 0<=f/\f<=16/\0<=c/\c<=16) :
    Calls Tryz.prog 324 #[.agg #[.int .i64 f,.int .i64 c,.int .i64 p],.agg #[.int .i64 f',.int .i64 c',.int .i64 p']] w fun e w'=>e = .returned (.bool (decide (f+c<=f')))/\Below w.heap.size w w':=by
  have e1 : IntKind.i64.wrap (f+c)=f+c:=by rw [IntKind.wrap_i64];omega
  clear h
  go_enter Tryz.func324,Tryz.ntmps324
  go_wp2
  go_ret;exact ⟨za6 rfl,za3 (za3 (Below.refl _ _))⟩
theorem zgc (f c p f' c' p' : Int) (w : World) (h : 0<=f/\f<=16/\0<=c/\c<=16/\0<=p/\p<=24) :
    Calls Tryz.prog 323 #[.agg #[.int .i64 f,.int .i64 c,.int .i64 p],.agg #[.int .i64 f',.int .i64 c',.int .i64 p']] w fun e w'=>e = .returned (.bool (decide (f+c=f') && decide (p+c=p')))/\Below w.heap.size w w':=by
  have e1 : IntKind.i64.wrap (f+c)=f+c:=by rw [IntKind.wrap_i64];omega
  have e2 : IntKind.i64.wrap (p+c)=p+c:=by rw [IntKind.wrap_i64];omega
  clear h;by_cases h1 : f+c=f'
  · have h1b : (f+c == f')=true:=by simpa using h1
    have HH : Hid ((p+c == p')=(decide (f+c=f') && decide (p+c=p'))):=by rw [Hid,decide_eq_true h1,Bool.true_and];rfl
    clear h1
    go_enter Tryz.func323,Tryz.ntmps323
    go_wp2
    go_ret;exact ⟨za6 HH.out,za3 (za3 (Below.refl _ _))⟩
  · have h1b : (f+c == f')=false:=by simpa using h1
    have HH : Hid (false=(decide (f+c=f') && decide (p+c=p'))):=by rw [Hid,decide_eq_false h1,Bool.false_and]
    clear h1
    go_enter Tryz.func323,Tryz.ntmps323
    go_wp2
    go_ret;exact ⟨za6 HH.out,za3 (za3 (Below.refl _ _))⟩
theorem zly (f c p f' c' p' : Int) (w : World) (h : 0<=c/\c<=16/\0<=c'/\c'<=16) :
    Calls Tryz.prog 325 #[.agg #[.int .i64 f,.int .i64 c,.int .i64 p],.agg #[.int .i64 f',.int .i64 c',.int .i64 p']] w fun e w'=>e = .returned (.agg #[.int .i64 f,.int .i64 (c+c'),.int .i64 p])/\Below w.heap.size w w':=by
  have e1 : IntKind.i64.wrap (c+c')=c+c':=by rw [IntKind.wrap_i64];omega
  clear h
  go_enter Tryz.func325,Tryz.ntmps325
  go_wp2
  exact bodyPost_ret (v:=.agg #[.int .i64 f,.int .i64 (c+c'),.int .i64 p]) (by simp [results,Tryz.results325,go_sem]) rfl ⟨rfl,by go_grown⟩
theorem zjw (x : Int) (w : World) :
    Calls Tryz.prog 276 #[.int .i64 x] w fun e w'=>e = .returned (.bool (decide (0<=x) && decide (x<=15)))/\w'=w:=by
  by_cases h1 : 0<=x
  · by_cases h2 : x < 16
    · go_enter Tryz.func276,Tryz.ntmps276
      go_wp2
      go_ret;exact ⟨za6 (by rw [decide_eq_true h1,decide_eq_true (show x<=15 by omega)];rfl),rfl⟩
    · go_enter Tryz.func276,Tryz.ntmps276
      go_wp2
      go_ret;exact ⟨za6 (by simp;omega),rfl⟩
  · go_enter Tryz.func276,Tryz.ntmps276
    go_wp2
    go_ret;exact ⟨za6 (by simp;omega),rfl⟩
theorem zjh (x : Int) (w : World) :
    Calls Tryz.prog 280 #[.int .i64 x] w fun e w'=>e = .returned (.bool (decide (-1<=x) && decide (x<=23)))/\w'=w:=by
  by_cases h1 : -1<=x
  · by_cases h2 : x < 24
    · go_enter Tryz.func280,Tryz.ntmps280
      go_wp2
      go_ret;exact ⟨za6 (by rw [decide_eq_true h1,decide_eq_true (show x<=23 by omega)];rfl),rfl⟩
    · go_enter Tryz.func280,Tryz.ntmps280
      go_wp2
      go_ret;exact ⟨za6 (by simp;omega),rfl⟩
  · go_enter Tryz.func280,Tryz.ntmps280
    go_wp2
    go_ret;exact ⟨za6 (by simp;omega),rfl⟩
theorem zwa (f c p : Int) (w : World) : (method 466 172 (.agg #[.int .i64 f,.int .i64 c,.int .i64 p]) "loop.example/g00372/impl.isAheadOf").run Tryz.prog w = .ok (324,.agg #[.int .i64 f,.int .i64 c,.int .i64 p]) w:=by kernel_rfl
theorem zyh (f c p : Int) (w : World) : (method 466 172 (.agg #[.int .i64 f,.int .i64 c,.int .i64 p]) "loop.example/g00372/impl.goesOnIn").run Tryz.prog w = .ok (323,.agg #[.int .i64 f,.int .i64 c,.int .i64 p]) w:=by kernel_rfl
theorem zu2 (f c p : Int) (w : World) : (method 466 172 (.agg #[.int .i64 f,.int .i64 c,.int .i64 p]) "loop.example/g00372/impl.joinedTo").run Tryz.prog w = .ok (325,.agg #[.int .i64 f,.int .i64 c,.int .i64 p]) w:=by kernel_rfl
theorem zms (v : Value) (rs : List (Int × Int × Int)) (w : World) (hfit : zb9 rs) (r : ReadsR 3 zak w.heap.size w v rs) :
    Calls Tryz.prog 248 #[v] w fun e w'=>e = .returned (.bool (okFrom 0 none rs))/\Below w.heap.size w w':=by
  obtain ⟨o,cap,rfl,hm,hc,-⟩:=r;have HC : Hid _:=zcn hc;have HF : Hid _:=hfit;unfold maxLen at hm;clear hc hfit
  go_enter Tryz.func248,Tryz.ntmps248
  go_wp2_with fail
  go_loopw [7] (fun i wr=>∃ (k : Nat) (e : Int),k<=rs.length/\i = .int .i64 k/\(k=0->e=0)/\okFrom 0 none rs=okFrom e (prevOf rs k) (rs.drop k)/\(∀ q,prevOf rs k=some q->ze2 q=true/\e=q.1+q.2.1)/\Below w.heap.size w wr) (fun i _=>rs.length - (intOf i).toNat)
  case atStart=>exact ⟨0,0,Nat.zero_le _,rfl,fun _=>rfl,rfl,fun q hq=>by simp [prevOf] at hq,Below.refl _ _⟩
  case round =>
    obtain ⟨k,e,hk,rfl,hk0,hok,hpv,hb⟩:=hrel;by_cases hlt : k < rs.length
    · obtain ⟨g,off,rfl,hg,a0,a1,a2⟩:=HC.out k hlt
      have hst:=zor rs e k hlt;rw [<- hok] at hst;have hfk:=HF.out rs[k] (List.getElem_mem hlt);replace a0:=(hb.cell (p:=⟨g,off+k * 3,none⟩) hg).trans a0;replace a1:=(hb.cell (p:=⟨g,off+k * 3+1,none⟩) hg).trans a1;replace a2:=(hb.cell (p:=⟨g,off+k * 3+2,none⟩) hg).trans a2
      obtain ⟨x,hx⟩ : ∃ x,rs[k]=x:=⟨_,rfl⟩
      rw [hx] at a0 a1 a2 hfk;obtain ⟨f,c,p⟩:=x;simp only at a0 a1 a2 hfk;have HNO : Hid (zi7 e (prevOf rs k) (f,c,p)=false->okFrom 0 none rs=false):=fun h=>by rw [hst,hx,h];rfl
      have HYES : Hid (zi7 e (prevOf rs k) (f,c,p)=true->okFrom 0 none rs=okFrom (f+c) (prevOf rs (k+1)) (rs.drop (k+1))):=fun h=>by rw [hst,hx,h,Bool.true_and]
      have HPV1 : Hid (prevOf rs (k+1)=some (f,c,p)):=by rw [Hid,prevOf,if_neg (by omega),Nat.add_sub_cancel,List.getElem?_eq_getElem hlt,hx]
      have hprev : ∀ k',k=k'+1->∃ q,prevOf rs k=some q/\w.cell? ⟨g,off+k' * 3,none⟩=some (.int .i64 q.1)/\w.cell? ⟨g,off+k' * 3+1,none⟩=some (.int .i64 q.2.1)/\w.cell? ⟨g,off+k' * 3+2,none⟩=some (.int .i64 q.2.2):=fun k' hk'=>by
        obtain ⟨g',off',e',-,b0,b1,b2⟩:=HC.out k' (by omega);cases e';refine ⟨rs[k'],?_,b0,b1,b2⟩;rw [prevOf,if_neg (by omega),show k - 1=k' by omega,List.getElem?_eq_getElem (by omega)]
      have HPREV : Hid _:=hprev;have HPVB : Hid _:=hpv;have HK0 : Hid _:=hk0;have hbA : Below w.heap.size w (wr.alloc (.cells #[.int .i64 f,.int .i64 c,.int .i64 p] 172)):=za3 hb;have kB:=heap_alloc_new wr (.cells #[.int .i64 f,.int .i64 c,.int .i64 p] 172);have sB : wr.heap.size < (wr.alloc (.cells #[.int .i64 f,.int .i64 c,.int .i64 p] 172)).heap.size:=by simp
      clear hst hok hprev hpv HC hx hk0
      go_wp2_with fail
      refine (zmr f c p _ hfk.1.2 hfk.2.2.2).mono ?_;generalize wr.alloc (.cells #[.int .i64 f,.int .i64 c,.int .i64 p] 172)=W5 at *;generalize wr.heap.size=nB at *;rintro e' w6 ⟨rfl,b6⟩;replace kB:=(b6.block nB sB).trans kB;replace sB:=Nat.lt_of_lt_of_le sB b6.size;replace hbA:=za1 hbA b6;clear b6;cases hr : ze2 (f,c,p)
      · have HH:=hr
        have HV : Hid _:=HNO.out (zgk e _ f c p (fun q=>by
          rw [<- Bool.not_eq_true,zcs] at HH;by_cases k0 : k=0
          · have:=HK0.out k0;omega
          · obtain ⟨k',rfl⟩ : ∃ k',k=k'+1:=⟨k - 1,by omega⟩
            obtain ⟨q',hq',-⟩:=HPREV.out k' rfl;obtain ⟨h1,h2⟩:=HPVB.out q' hq';obtain ⟨qf,qc,qp⟩:=q';rw [zcs] at h1;simp only at h2
            omega))
        clear HH hr
        go_wp2_with fail
        go_ret;exact ⟨za6 HV.out.symm,hbA⟩
      rw [zcs] at hr
      have HRR : Hid (∀ q,prevOf rs (k+1)=some q->ze2 q=true/\f+c=q.1+q.2.1):=fun q hq=>by
        rw [HPV1.out] at hq;cases hq;exact ⟨(zcs f c p).2 hr,rfl⟩
      rcases Nat.eq_zero_or_pos k with hk0 | hkp
      · subst hk0
        have HV : Hid _:=HYES.out ((zby e _ f c p).2 ⟨by have:=HK0.out rfl;omega,by omega,by omega,by omega,by omega,by omega,fun q hq=>by simp [prevOf] at hq⟩);clear HYES HNO HPVB HPREV HK0
        go_wp2_with fail
        go_quiet (fail)
        go_wp2_with fail
        go_roundw
        case rel=>exact ⟨0+1,f+c,by omega,by go_num,fun h=>by omega,HV.out,HRR.out,⟨hbA.os,hbA.tape,hbA.output,hbA.size,hbA.block⟩⟩
        case measure=>simp [intOf];omega
      · obtain ⟨k',rfl⟩ : ∃ k',k=k'+1:=⟨k - 1,by omega⟩
        obtain ⟨⟨qf,qc,qp⟩,hpq,b0,b1,b2⟩:=HPREV.out k' rfl;obtain ⟨hq1,hq2⟩:=HPVB.out _ hpq;rw [zcs] at hq1;simp only at hq2 b0 b1 b2;have hgs : g < w6.heap.size:=Nat.lt_of_lt_of_le hg hbA.size;have hne:=BelowOf.any w6;have ma:=zwa;have mo:=zyh;have d0:=BelowOf.cell ((hbA.cell (p:=⟨g,off+k' * 3,none⟩) hg).trans b0) hgs;have d1:=BelowOf.cell ((hbA.cell (p:=⟨g,off+k' * 3+1,none⟩) hg).trans b1) hgs;have d2:=BelowOf.cell ((hbA.cell (p:=⟨g,off+k' * 3+2,none⟩) hg).trans b2) hgs;have f0:=BelowOf.cell (za0 kB 0) sB;have f1:=BelowOf.cell (za0 kB 1) sB;have f2:=BelowOf.cell (za0 kB 2) sB;have hw1 : IntKind.i64.wrap ((k' : Int)+1 - 1)=k':=by rw [IntKind.wrap_i64];omega
        have hw2 : (k' : Int)+1 - 1=k':=by omega
        have hw3 : IntKind.i64.wrap (k' : Int)=k':=by rw [IntKind.wrap_i64];omega
        have hi0 : (0 : Int)<=(k' : Int):=by omega
        have hi1 : (k' : Int) < (rs.length : Int):=by omega
        have hq0 : (0 : Int) < (k' : Int)+1:=by omega
        by_cases h1 : qf+qc<=f
        · have HA : ∀ q : BelowOf w6,Calls Tryz.prog 324 #[.agg #[.int .i64 qf,.int .i64 qc,.int .i64 qp],.agg #[.int .i64 f,.int .i64 c,.int .i64 p]] q.w' fun e w'=>e = .returned (.bool true)/\Below q.w'.heap.size q.w' w':=fun q=>by have h:=zhr qf qc qp f c p q.w' (by omega);rwa [decide_eq_true h1] at h
          by_cases h2 : qf+qc=f/\qp+qc=p
          · have HO : ∀ q : BelowOf w6,Calls Tryz.prog 323 #[.agg #[.int .i64 qf,.int .i64 qc,.int .i64 qp],.agg #[.int .i64 f,.int .i64 c,.int .i64 p]] q.w' fun e w'=>e = .returned (.bool true)/\Below q.w'.heap.size q.w' w':=fun q=>by have h:=zgc qf qc qp f c p q.w' (by omega);rwa [decide_eq_true h2.1,decide_eq_true h2.2] at h
            have HV : Hid _:=HNO.out (zgk e _ f c p (fun h=>h.2.2.2.2.2.2 _ hpq ⟨by omega,by simp only;omega⟩));clear HYES HNO HPVB HPREV HK0 hpq
            go_wp2_with fail
            refine zad (by kernel_rfl) (by kernel_rfl) ?_
            repeat (go_big_quiet_step ((first | (go_at_call 324;exact zb1 (HA _)) | (go_at_call 323;exact zb1 (HO _)) | rfl)))
            refine wpQuiet_nil ?_;intro w7 hw7;obtain ⟨⟨wx,cx⟩,hwx⟩:=hw7;have b7 : Below w6.heap.size w6 w7:=by rw [hwx];exact cx
            have hb7:=za1 hbA b7;clear hwx cx wx hne d0 d1 d2 f0 f1 f2 HA HO
            go_wp2_with fail
            go_ret;exact ⟨za6 HV.out.symm,hb7⟩
          · have HO : ∀ q : BelowOf w6,Calls Tryz.prog 323 #[.agg #[.int .i64 qf,.int .i64 qc,.int .i64 qp],.agg #[.int .i64 f,.int .i64 c,.int .i64 p]] q.w' fun e w'=>e = .returned (.bool false)/\Below q.w'.heap.size q.w' w':=fun q=>by
              have h:=zgc qf qc qp f c p q.w' (by omega)
              rwa [show (decide (qf+qc=f) && decide (qp+qc=p))=false by simpa using h2] at h
            have HV : Hid _:=HYES.out ((zby e _ f c p).2 ⟨by omega,by omega,by omega,by omega,by omega,by omega,fun q hq h=>by rw [hpq] at hq;cases hq;simp only at h;omega⟩);clear HYES HNO HPVB HPREV HK0 hpq
            go_wp2_with fail
            refine zad (by kernel_rfl) (by kernel_rfl) ?_
            repeat (go_big_quiet_step ((first | (go_at_call 324;exact zb1 (HA _)) | (go_at_call 323;exact zb1 (HO _)) | rfl)))
            refine wpQuiet_nil ?_;intro w7 hw7;obtain ⟨⟨wx,cx⟩,hwx⟩:=hw7;have b7 : Below w6.heap.size w6 w7:=by rw [hwx];exact cx
            have hb7:=za1 hbA b7;clear hwx cx wx hne d0 d1 d2 f0 f1 f2 HA HO
            go_wp2_with fail
            go_roundw
            case rel=>exact ⟨k'+1+1,f+c,by omega,by go_num,fun h=>by omega,HV.out,HRR.out,hb7⟩
            case measure=>simp [intOf];omega
        · have HA : ∀ q : BelowOf w6,Calls Tryz.prog 324 #[.agg #[.int .i64 qf,.int .i64 qc,.int .i64 qp],.agg #[.int .i64 f,.int .i64 c,.int .i64 p]] q.w' fun e w'=>e = .returned (.bool false)/\Below q.w'.heap.size q.w' w':=fun q=>by have h:=zhr qf qc qp f c p q.w' (by omega);rwa [decide_eq_false h1] at h
          have HV : Hid _:=HNO.out (zgk e _ f c p (fun h=>by omega));clear HYES HNO HPVB HPREV HK0 hpq
          go_wp2_with fail
          refine zad (by kernel_rfl) (by kernel_rfl) ?_
          repeat (go_big_quiet_step ((first | (go_at_call 324;exact zb1 (HA _)) | rfl)))
          refine wpQuiet_nil ?_;intro w7 hw7;obtain ⟨⟨wx,cx⟩,hwx⟩:=hw7;have b7 : Below w6.heap.size w6 w7:=by rw [hwx];exact cx
          have hb7:=za1 hbA b7;clear hwx cx wx hne d0 d1 d2 f0 f1 f2 HA
          go_wp2_with fail
          go_ret;exact ⟨za6 HV.out.symm,hb7⟩
    · have hl : rs.drop k = []:=List.drop_of_length_le (by omega)
      have hv : okFrom 0 none rs=true:=by rw [hok,hl];rfl
      have HV : Hid _:=hv;clear hl hv hok
      go_wp2_with fail
      go_ret;exact ⟨za6 HV.out.symm,hb⟩
theorem zdf (v : Value) (rs : List (Int × Int × Int)) (w : World) (hfit : zb9 rs) (r : ReadsR 3 zak w.heap.size w v rs) :
    Calls Tryz.prog 220 #[v] w fun e w'=>e = .returned (.bool (mapOk rs))/\Below w.heap.size w w':=by
  have r0:=r;obtain ⟨o,cap,rfl,hm,hc,-⟩:=r;unfold maxLen at hm;clear hc;by_cases hl : rs.length<=16
  · have HV : Hid (okFrom 0 none rs=mapOk rs):=by rw [Hid,mapOk,decide_eq_true hl,Bool.and_true]
    have hl2 : (rs.length : Int)<=16:=by omega
    go_enter Tryz.func220,Tryz.ntmps220
    go_wp2_with fail
    refine (zms _ rs _ hfit r0).mono ?_;rintro e w1 ⟨rfl,b1⟩
    go_wp2_with fail
    go_ret;exact ⟨za6 HV.out,b1⟩
  · have HV : Hid (mapOk rs=false):=by rw [Hid,mapOk,decide_eq_false hl,Bool.and_false]
    have hl2 : ¬ (rs.length : Int)<=16:=by omega
    go_enter Tryz.func220,Tryz.ntmps220
    go_wp2_with fail
    go_ret;exact ⟨za6 HV.out.symm,Below.refl _ _⟩
end Go.Proofs.YtfkkapdofjhgpaaGreatDoor
