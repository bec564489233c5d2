import Derived.Lib.Strings
import Derived.Shelf.LaysM
import Derived.Shelf.Strconv.Clone
import Derived.Test.YtmnhnhjefocicaaGreatDoorM01
import Derived.Test.YtmnhnhjefocicaaGreatDoorM03
import Derived.Test.YtmnhnhjefocicaaGreatDoorM04
import Derived.Test.YtmnhnhjefocicaaGreatDoorM05
import Derived.Test.YtmnhnhjefocicaaGreatDoorM15
import Derived.Test.YtmnhnhjefocicaaGreatDoorM30
namespace Go.Proofs.YtmnhnhjefocicaaGreatDoor
open Go.RowKit
set_option linter.unusedVariables false
set_option maxRecDepth 100000
set_option maxHeartbeats 1600000 in
theorem samePool_any (v1 v2 : Value) (cs ps : List Int) (w : World) (hc : cs.length <= 1048576) (hp : ps.length <= 1048576) (h1 : Reads w.heap.size w v1 (cs.map (Value.int .i64))) (h2 : Reads w.heap.size w v2 (ps.map (Value.int .i64))) :
    Calls Tryz.prog 135 #[.agg #[v1,v2]] w fun e w' => ∃ u1 u2 : Value,e = .returned (.agg #[u1,u2]) /\ OwnP w.heap.size w' u1 u2 cs ps /\ Below w.heap.size w w' := by
  obtain ⟨W0,hW0,k0,k1,d0,z0⟩ := pool_start w v1 v2;have r1 : Reads W0.drew.heap.size W0.drew v1 (cs.map (Value.int .i64)) := ((h1.below d0).mono d0.size).below ((Below.refl _ _).drew);have r2 : Reads W0.drew.heap.size W0.drew v2 (ps.map (Value.int .i64)) := ((h2.below d0).mono d0.size).below ((Below.refl _ _).drew)
  have S0 : W0.drew.cell? ⟨w.heap.size,0,none⟩ = some v1 /\ W0.drew.cell? ⟨w.heap.size,1,none⟩ = some v2 := ⟨at_cell k0 0,at_cell k0 1⟩
  have HW0 : Hid (W0 = _) := hW0;clear hW0 h1 h2
  go_enter Tryz.func135,Tryz.ntmps135
  go_wp2_with fail
  rw [<- HW0.out];clear HW0;obtain ⟨S00,S01⟩ := S0
  go_region_law (go_simp;go_at_call 149;first
      | (have q25 := r25;clear q25;refine (sameNumbers_any v2 ps _ hp r25).mono ?_;rintro e w6 ⟨v6,rfl,own6,hn6,b6⟩;obtain ⟨o6,c6,rfl⟩ := own_slice own6;have k60 := (b6.block _ (heap_lt k50)).trans k50;have k61 := (b6.block _ (heap_lt k51)).trans k51;have S60 := at_cell k60 0;have S61 := at_cell k60 1;have q0 := at_cell k61 0;have q1 := at_cell k61 1;have f0 := at_open k61 0;have f1 := at_open k61 1;dsimp only)
      | (refine (sameNumbers_any v1 cs _ hc r1).mono ?_;rintro e w5 ⟨v5,rfl,own5,hn5,b5⟩;obtain ⟨o5,c5,rfl⟩ := own_slice own5;have k50 := (b5.block _ (show w.heap.size < W0.heap.size by omega)).trans k0;have k51 := (b5.block _ (show w.heap.size + 1 < W0.heap.size by omega)).trans k1;have S50 := at_cell k50 0;have S51 := at_cell k50 1;have r25 := (r2.below b5).mono b5.size;dsimp only))
  all_goals
    have HS : Hid _ := pair_end d0 z0 own5 b5 own6 b6 k61;clear own5 own6 b5 b6 k50 k51 k60 k61 S50 S51 S60 S61 q0 q1 f0 f1 r25 r1 r2 S00 S01 k0 k1 hn5 hn6
    go_wp2_with fail
    exact bodyPost_ret (v := .agg #[.slice o5 cs.length c5,.slice o6 ps.length c6]) (by simp [results,Tryz.results135,go_sem,at_cell HS.out.1]) rfl ⟨_,_,rfl,HS.out.2⟩
set_option maxHeartbeats 1600000 in
theorem withCell_any (v1 v2 : Value) (cs ps : List Int) (k : Nat) (c p : Int) (w : World) (cs' ps' : List Int) (hcs : Hid (cs.set k c = cs')) (hps : Hid (ps.set k p = ps')) (hc : cs.length <= 1048576) (hp : ps.length <= 1048576) (hk1 : k < cs.length) (hk2 : k < ps.length) (h1 : Reads w.heap.size w v1 (cs.map (Value.int .i64))) (h2 : Reads w.heap.size w v2 (ps.map (Value.int .i64))) :
    Calls Tryz.prog 207 #[.agg #[v1,v2],.int .i64 k,.int .i64 c,.int .i64 p] w fun e w' => ∃ u1 u2 : Value,e = .returned (.agg #[u1,u2]) /\ OwnP w.heap.size w' u1 u2 cs' ps' /\ Below w.heap.size w w' := by
  obtain ⟨W0,hW0,k0,k1,d0,z0⟩ := pool_start w v1 v2;have r1 : Reads W0.drew.heap.size W0.drew v1 (cs.map (Value.int .i64)) := ((h1.below d0).mono d0.size).below ((Below.refl _ _).drew);have r2 : Reads W0.drew.heap.size W0.drew v2 (ps.map (Value.int .i64)) := ((h2.below d0).mono d0.size).below ((Below.refl _ _).drew)
  have S0 : W0.drew.cell? ⟨w.heap.size,0,none⟩ = some v1 /\ W0.drew.cell? ⟨w.heap.size,1,none⟩ = some v2 := ⟨at_cell k0 0,at_cell k0 1⟩
  have HW0 : Hid (W0 = _) := hW0;clear hW0 h1 h2
  go_enter Tryz.func207,Tryz.ntmps207
  go_wp2_with fail
  rw [<- HW0.out];clear HW0;obtain ⟨S00,S01⟩ := S0
  go_region_law (go_simp;go_at_call 198;first
      | (have q25 := r25;clear q25;refine (withNumber_any v2 ps k p _ hk2 hp r25).mono ?_;rw [hps.out];rintro e w6 ⟨v6,rfl,own6,hn6,b6⟩;obtain ⟨o6,c6,rfl⟩ := own_slice own6;have k60 := (b6.block _ (heap_lt k50)).trans k50;have k61 := (b6.block _ (heap_lt k51)).trans k51;have S60 := at_cell k60 0;have S61 := at_cell k60 1;have q0 := at_cell k61 0;have q1 := at_cell k61 1;have f0 := at_open k61 0;have f1 := at_open k61 1;dsimp only)
      | (refine (withNumber_any v1 cs k c _ hk1 hc r1).mono ?_;rw [hcs.out];rintro e w5 ⟨v5,rfl,own5,hn5,b5⟩;obtain ⟨o5,c5,rfl⟩ := own_slice own5;have k50 := (b5.block _ (show w.heap.size < W0.heap.size by omega)).trans k0;have k51 := (b5.block _ (show w.heap.size + 1 < W0.heap.size by omega)).trans k1;have S50 := at_cell k50 0;have S51 := at_cell k50 1;have r25 := (r2.below b5).mono b5.size;dsimp only))
  all_goals
    have HS : Hid _ := pair_end d0 z0 own5 b5 own6 b6 k61;clear own5 own6 b5 b6 k50 k51 k60 k61 S50 S51 S60 S61 q0 q1 f0 f1 r25 r1 r2 S00 S01 k0 k1 hn5 hn6
    go_wp2_with fail
    exact bodyPost_ret (v := .agg #[.slice o5 cs'.length c5,.slice o6 ps'.length c6]) (by simp [results,Tryz.results207,go_sem,at_cell HS.out.1]) rfl ⟨_,_,rfl,HS.out.2⟩
set_option maxHeartbeats 3200000 in
theorem implTaken_any (v1 v2 : Value) (cs ps : List Int) (v : Int) (w : World) (h1 : Reads w.heap.size w v1 (cs.map (Value.int .i64))) (h2 : Reads w.heap.size w v2 (ps.map (Value.int .i64))) :
    Calls Tryz.prog 208 #[.agg #[v1,v2],.int .i64 v] w fun e w' => ∃ u1 u2 : Value,e = .returned (.tuple #[.agg #[u1,u2],.int .i64 (takenPage cs ps v).2]) /\ OwnP w.heap.size w' u1 u2 (takenPage cs ps v).1.1 (takenPage cs ps v).1.2 /\ Below w.heap.size w w' := by
  obtain ⟨W0,hW0,k0,k1,d0,z0⟩ := pool_start w v1 v2;have r1 := (h1.below d0).mono d0.size;have r2 := (h2.below d0).mono d0.size;have p0 := at_cell k0 0;have p1 := at_cell k0 1;have HW0 : Hid (W0 = _) := hW0;clear hW0 h1 h2
  go_enter Tryz.func208,Tryz.ntmps208
  go_wp2_with fail
  rw [<- HW0.out];clear HW0;refine (implPoolOk_any v1 v2 cs ps _ r1 r2).mono ?_;rintro e w1 ⟨rfl,b1⟩;replace k0 := (b1.block _ (by omega)).trans k0;replace k1 := (b1.block _ (by omega)).trans k1;replace r1 := (r1.below b1).mono b1.size;replace r2 := (r2.below b1).mono b1.size;replace d0 := bw_call d0 b1;have z1 : w.heap.size + 1 + 1 <= w1.heap.size := by have := b1.size;omega
  clear p0 p1 b1 z0;cases hok : poolOk cs ps
  · have HV : Hid (takenPage cs ps v = (([],[]),-1)) := by simp [Hid,takenPage,hok]
    have q0 := at_cell k1 0;have q1 := at_cell k1 1;have f0 := at_open k1 0;have f1 := at_open k1 1;have HS : Hid _ := pool_end w w1 (.slice none 0 0) (.slice none 0 0) _ _ (w.heap.size + 1) [] [] (by omega) k1 (OwnP.nil _ _) d0;clear k0 k1 r1 r2 hok
    go_wp2_with fail
    refine bodyPost_ret (v := .tuple #[.agg #[.slice none 0 0,.slice none 0 0],.int .i64 (-1)]) (by simp [results,Tryz.results208,go_sem,at_cell HS.out.1]) rfl ⟨.slice none 0 0,.slice none 0 0,by rw [HV.out],by rw [HV.out];exact HS.out.2.1,HS.out.2.2⟩
  · have hb := (poolOk_iff cs ps).1 hok
    have HP : Hid (ps.length = cs.length) := hb.2.2.1;have hlc : cs.length <= 1048576 := by omega
    have hlp : ps.length <= 1048576 := by omega
    have hc1 : 1 <= cs.length := hb.1;have HOK : Hid (poolOk cs ps = true) := hok;have p0 := at_cell k0 0;have p1 := at_cell k0 1;clear hok hb
    go_wp2_with fail
    refine (index_any v1 cs _ r1).mono ?_;rintro e w2 ⟨rfl,rfl⟩
    have none : takenPage cs ps v = ((cs,ps),-1) -> ∀ (u1 u2 : Value) (w3 : World),OwnP w2.heap.size w3 u1 u2 cs ps -> Below w2.heap.size w2 w3 -> Hid (takenPage cs ps v = ((cs,ps),-1) /\ w3.heap[w.heap.size + 1]? = some (.cells #[.slice none 0 0,.slice none 0 0] 39 (0,0)) /\
        (((w3.setCell ⟨w.heap.size + 1,0,none⟩ u1).setCell ⟨w.heap.size + 1,1,none⟩ u2).heap[w.heap.size + 1]? = some (.cells #[u1,u2] 39 (0,0)) /\ OwnP w.heap.size ((w3.setCell ⟨w.heap.size + 1,0,none⟩ u1).setCell ⟨w.heap.size + 1,1,none⟩ u2) u1 u2 cs ps /\ Below w.heap.size w ((w3.setCell ⟨w.heap.size + 1,0,none⟩ u1).setCell ⟨w.heap.size + 1,1,none⟩ u2))) := fun hv u1 u2 w3 own b => by
      have k13 := (b.block _ (by omega)).trans k1;exact ⟨hv,k13,pool_end w w3 u1 u2 _ _ (w.heap.size + 1) cs ps (by omega) k13 (own.mono z1) (bw_call d0 b)⟩
    have HNone : Hid _ := none;clear none;by_cases hf : firstFree cs < cs.length
    · have ht : tookAt cs = (firstFree cs : Int) := by rw [tookAt,if_pos hf]
      rw [ht];have hf0 : (0 : Int) <= (firstFree cs : Int) := by omega
      have HF : Hid (takenPage cs ps v = if 0 <= v /\ v <= 999 then ((cs.set (firstFree cs) 1,ps.set (firstFree cs) v),(firstFree cs : Int)) else ((cs,ps),-1)) := by
        rw [Hid,takenPage,if_pos HOK.out];by_cases hv : 0 <= v /\ v <= 999
        · rw [if_pos ⟨hf,hv⟩,if_pos hv]
        · rw [if_neg (fun q => hv q.2),if_neg hv]
      generalize firstFree cs = q at *;clear ht
      go_wp2_with fail
      refine (valueOk_any v _).mono ?_;rintro e w3 ⟨rfl,rfl⟩;cases hv : (decide (0 <= v) && decide (v <= 999))
      · have hv2 : takenPage cs ps v = ((cs,ps),-1) := by rw [HF.out,if_neg (by simp at hv;omega)]
        have HNone2 : Hid _ := HNone.out hv2;clear HNone hv2 HF
        go_wp2_with fail
        refine (samePool_any v1 v2 cs ps _ hlc hlp r1 r2).mono ?_;rintro e w4 ⟨u1,u2,rfl,own,b⟩;obtain ⟨o1,c1,rfl⟩ := own_slice own.c;obtain ⟨o2,c2,rfl⟩ := own_slice own.p;have HS := HNone2.out _ _ w4 own b;have q0 := at_cell HS.out.2.1 0;have q1 := at_cell HS.out.2.1 1;have f0 := at_open HS.out.2.1 0;have f1 := at_open HS.out.2.1 1;clear own b HNone2 k0 k1 r1 r2 p0 p1
        go_wp2_with fail
        exact bodyPost_ret (v := .tuple #[.agg #[.slice o1 cs.length c1,.slice o2 ps.length c2],.int .i64 (-1)]) (by simp [results,Tryz.results208,go_sem,at_cell HS.out.2.2.1]) rfl ⟨.slice o1 cs.length c1,.slice o2 ps.length c2,by rw [HS.out.1],by rw [HS.out.1];exact HS.out.2.2.2.1,HS.out.2.2.2.2⟩
      · obtain ⟨cs',hcs⟩ : ∃ x,cs.set q 1 = x := ⟨_,rfl⟩
        obtain ⟨ps',hps⟩ : ∃ x,ps.set q v = x := ⟨_,rfl⟩
        have HV : Hid (takenPage cs ps v = ((cs',ps'),(q : Int))) := by rw [Hid,HF.out,if_pos (by simpa using hv),hcs,hps]
        have HCS : Hid _ := hcs;have HPS : Hid _ := hps;clear hcs hps;have hq2 : q < ps.length := by rw [HP.out];exact hf
        clear HNone HF
        go_wp2_with fail
        refine (withCell_any v1 v2 cs ps q 1 v _ cs' ps' HCS HPS hlc hlp hf hq2 r1 r2).mono ?_;rintro e w4 ⟨u1,u2,rfl,own,b⟩;obtain ⟨o1,c1,rfl⟩ := own_slice own.c;obtain ⟨o2,c2,rfl⟩ := own_slice own.p;have k14 := (b.block _ (by omega)).trans k1;have HS : Hid _ := pool_end w w4 _ _ _ _ (w.heap.size + 1) _ _ (by omega) k14 (own.mono z1) (bw_call d0 b);have q0 := at_cell k14 0;have q1 := at_cell k14 1;have f0 := at_open k14 0;have f1 := at_open k14 1;clear own b k0 k1 r1 r2 p0 p1 k14
        go_wp2_with fail
        exact bodyPost_ret (v := .tuple #[.agg #[.slice o1 cs'.length c1,.slice o2 ps'.length c2],.int .i64 q]) (by simp [results,Tryz.results208,go_sem,at_cell HS.out.1]) rfl ⟨.slice o1 cs'.length c1,.slice o2 ps'.length c2,by rw [HV.out],by rw [HV.out];exact HS.out.2.1,HS.out.2.2⟩
    · have ht : tookAt cs = -1 := by rw [tookAt,if_neg hf]
      rw [ht];have hv2 : takenPage cs ps v = ((cs,ps),-1) := by rw [takenPage,if_pos HOK.out,if_neg (fun q => hf q.1)]
      have HNone2 : Hid _ := HNone.out hv2;clear HNone hv2 ht hf
      go_wp2_with fail
      refine (samePool_any v1 v2 cs ps _ hlc hlp r1 r2).mono ?_;rintro e w4 ⟨u1,u2,rfl,own,b⟩;obtain ⟨o1,c1,rfl⟩ := own_slice own.c;obtain ⟨o2,c2,rfl⟩ := own_slice own.p;have HS := HNone2.out _ _ w4 own b;have q0 := at_cell HS.out.2.1 0;have q1 := at_cell HS.out.2.1 1;have f0 := at_open HS.out.2.1 0;have f1 := at_open HS.out.2.1 1;clear own b HNone2 k0 k1 r1 r2 p0 p1
      go_wp2_with fail
      exact bodyPost_ret (v := .tuple #[.agg #[.slice o1 cs.length c1,.slice o2 ps.length c2],.int .i64 (-1)]) (by simp [results,Tryz.results208,go_sem,at_cell HS.out.2.2.1]) rfl ⟨.slice o1 cs.length c1,.slice o2 ps.length c2,by rw [HS.out.1],by rw [HS.out.1];exact HS.out.2.2.2.1,HS.out.2.2.2.2⟩
set_option maxHeartbeats 3200000 in
theorem implDropped_any (v1 v2 : Value) (cs ps : List Int) (at_ : Int) (w : World) (h1 : Reads w.heap.size w v1 (cs.map (Value.int .i64))) (h2 : Reads w.heap.size w v2 (ps.map (Value.int .i64))) :
    Calls Tryz.prog 209 #[.agg #[v1,v2],.int .i64 at_] w fun e w' => ∃ u1 u2 : Value,e = .returned (.tuple #[.agg #[u1,u2],.bool (dropped cs ps at_).2]) /\ OwnP w.heap.size w' u1 u2 (dropped cs ps at_).1.1 (dropped cs ps at_).1.2 /\ Below w.heap.size w w' := by
  obtain ⟨W0,hW0,k0,k1,d0,z0⟩ := pool_start w v1 v2;have r1 := (h1.below d0).mono d0.size;have r2 := (h2.below d0).mono d0.size;have p0 := at_cell k0 0;have p1 := at_cell k0 1;have HW0 : Hid (W0 = _) := hW0;clear hW0 h1 h2
  go_enter Tryz.func209,Tryz.ntmps209
  go_wp2_with fail
  rw [<- HW0.out];clear HW0;refine (implPoolOk_any v1 v2 cs ps _ r1 r2).mono ?_;rintro e w1 ⟨rfl,b1⟩;replace k0 := (b1.block _ (by omega)).trans k0;replace k1 := (b1.block _ (by omega)).trans k1;replace r1 := (r1.below b1).mono b1.size;replace r2 := (r2.below b1).mono b1.size;replace d0 := bw_call d0 b1;have z1 : w.heap.size + 1 + 1 <= w1.heap.size := by have := b1.size;omega
  clear p0 p1 b1 z0;cases hok : poolOk cs ps
  · have HV : Hid (dropped cs ps at_ = (([],[]),false)) := by simp [Hid,dropped,hok]
    have q0 := at_cell k1 0;have q1 := at_cell k1 1;have f0 := at_open k1 0;have f1 := at_open k1 1;have HS : Hid _ := pool_end w w1 (.slice none 0 0) (.slice none 0 0) _ _ (w.heap.size + 1) [] [] (by omega) k1 (OwnP.nil _ _) d0;clear k0 k1 r1 r2 hok
    go_wp2_with fail
    exact bodyPost_ret (v := .tuple #[.agg #[.slice none 0 0,.slice none 0 0],.bool false]) (by simp [results,Tryz.results209,go_sem,at_cell HS.out.1]) rfl ⟨.slice none 0 0,.slice none 0 0,by rw [HV.out],by rw [HV.out];exact HS.out.2.1,HS.out.2.2⟩
  · have hb := (poolOk_iff cs ps).1 hok
    have HP : Hid (ps.length = cs.length) := hb.2.2.1;have hlc : cs.length <= 1048576 := by omega
    have hlp : ps.length <= 1048576 := by omega
    have hc1 : 1 <= cs.length := hb.1;have HOK : Hid (poolOk cs ps = true) := hok;have HB : Hid (∀ j,j < cs.length -> cellOk (cs.getD j 0) (ps.getD j 0) = true) := hb.2.2.2;have p0 := at_cell k0 0;have p1 := at_cell k0 1;clear hok hb
    go_wp2_with fail
    refine (countAt_any v1 v2 cs at_ _ r1).mono ?_;rintro e w2 ⟨rfl,b2⟩;replace k0 := (b2.block _ (heap_lt k0)).trans k0;replace k1 := (b2.block _ (heap_lt k1)).trans k1;replace r1 := (r1.below b2).mono b2.size;replace r2 := (r2.below b2).mono b2.size;replace d0 := bw_call d0 b2;replace z1 := Nat.le_trans z1 b2.size;clear p0 p1 b2;have p0 := at_cell k0 0;have p1 := at_cell k0 1;by_cases hcnt : countAt cs at_ < 1
    · have HV : Hid (dropped cs ps at_ = ((cs,ps),false)) := by rw [Hid,dropped,if_pos HOK.out,if_neg (by omega)]
      generalize countAt cs at_ = n at hcnt ⊢
      go_wp2_with fail
      refine (samePool_any v1 v2 cs ps _ hlc hlp r1 r2).mono ?_;rintro e w4 ⟨u1,u2,rfl,own,b⟩;obtain ⟨o1,c1,rfl⟩ := own_slice own.c;obtain ⟨o2,c2,rfl⟩ := own_slice own.p;have k14 := (b.block _ (heap_lt k1)).trans k1;have HS : Hid _ := pool_end w w4 _ _ _ _ (w.heap.size + 1) _ _ (by omega) k14 (own.mono z1) (bw_call d0 b);have q0 := at_cell k14 0;have q1 := at_cell k14 1;have f0 := at_open k14 0;have f1 := at_open k14 1;clear own b k0 k1 r1 r2 p0 p1 k14
      go_wp2_with fail
      exact bodyPost_ret (v := .tuple #[.agg #[.slice o1 cs.length c1,.slice o2 ps.length c2],.bool false]) (by simp [results,Tryz.results209,go_sem,at_cell HS.out.1]) rfl ⟨.slice o1 cs.length c1,.slice o2 ps.length c2,by rw [HV.out],by rw [HV.out];exact HS.out.2.1,HS.out.2.2⟩
    · have hcn : 1 <= countAt cs at_ := by omega
      obtain ⟨k,rfl,hk,hce⟩ := countAt_pos cs at_ (by omega);have hk2 : k < ps.length := by rw [HP.out];exact hk
      obtain ⟨o2,cap2,rfl,m2,c2',hroom2⟩ := r2;obtain ⟨g2,off2,rfl,hg2,cc2⟩ := c2' k _ (getD_some ps k hk2);have hl0 : (ps.map (Value.int .i64)).length = ps.length := by simp
      have r2 : Reads w2.heap.size w2 (.slice (some ⟨g2,off2,none⟩) (ps.map (Value.int .i64)).length cap2) (ps.map (Value.int .i64)) := ⟨_,_,rfl,m2,c2',hroom2⟩
      rw [hl0] at k0 r2 p0 p1;have cck := (cellOk_iff _ _).1 (HB.out k hk);have i0 : (0 : Int) <= (k : Int) := by omega
      have i1 : (k : Int) < (ps.length : Int) := by omega
      clear m2 c2' hroom2 hl0 hcnt HB;have HV : Hid (dropped cs ps (k : Int) = ((cs.set k (countAt cs (k : Int) - 1),if countAt cs (k : Int) = 1 then ps.set k 0 else ps),true)) := by rw [Hid,dropped,if_pos HOK.out,if_pos hcn,Int.toNat_natCast]
      have hn4 : countAt cs (k : Int) <= 400 := by omega
      generalize countAt cs (k : Int) = n at *
      obtain ⟨cs',hcs⟩ : ∃ x,cs.set k (n - 1) = x := ⟨_,rfl⟩
      have HPS0 : Hid (ps.set k (ps.getD k 0) = ps) := set_same ps k;rw [hcs] at HV;have HCS : Hid _ := hcs;clear hcs hce cck;generalize ps.getD k 0 = y at *;have hcn3 : ¬ n < 1 := by omega
      by_cases hn1 : n = 1
      · obtain ⟨ps',hps⟩ : ∃ x,ps.set k 0 = x := ⟨_,rfl⟩
        rw [if_pos hn1,hps] at HV;have HPS : Hid _ := hps;subst hn1;clear hps HPS0
        go_wp2_with fail
        refine (withCell_any v1 _ cs ps k 0 0 _ cs' ps' HCS HPS hlc hlp hk hk2 r1 r2).mono ?_;rintro e w5 ⟨u1,u2,rfl,own5,b5⟩;obtain ⟨o1,c1,rfl⟩ := own_slice own5.c;obtain ⟨o3,c3,rfl⟩ := own_slice own5.p;have k51 := (b5.block _ (heap_lt k1)).trans k1;have q0 := at_cell k51 0;have q1 := at_cell k51 1;have f0 := at_open k51 0;have f1 := at_open k51 1;have HS : Hid _ := pool_end w w5 _ _ _ _ (w.heap.size + 1) _ _ (by omega) k51 (own5.mono z1) (bw_call d0 b5);clear own5 b5 k51 k0 k1 r1 r2
        go_wp2_with fail
        exact bodyPost_ret (v := .tuple #[.agg #[.slice o1 cs'.length c1,.slice o3 ps'.length c3],.bool true]) (by simp [results,Tryz.results209,go_sem,at_cell HS.out.1]) rfl ⟨.slice o1 cs'.length c1,.slice o3 ps'.length c3,by rw [HV.out],by rw [HV.out];exact HS.out.2.1,HS.out.2.2⟩
      · rw [if_neg hn1] at HV
        have hn2 : (n == 1) = false := by simpa using hn1
        go_wp2_with fail
        refine (withCell_any v1 _ cs ps k (n - 1) y _ cs' ps HCS HPS0 hlc hlp hk hk2 r1 r2).mono ?_;rintro e w5 ⟨u1,u2,rfl,own5,b5⟩;obtain ⟨o1,c1,rfl⟩ := own_slice own5.c;obtain ⟨o3,c3,rfl⟩ := own_slice own5.p;have k51 := (b5.block _ (heap_lt k1)).trans k1;have q0 := at_cell k51 0;have q1 := at_cell k51 1;have f0 := at_open k51 0;have f1 := at_open k51 1;have HS : Hid _ := pool_end w w5 _ _ _ _ (w.heap.size + 1) _ _ (by omega) k51 (own5.mono z1) (bw_call d0 b5);clear own5 b5 k51 k0 k1 r1 r2
        go_wp2_with fail
        exact bodyPost_ret (v := .tuple #[.agg #[.slice o1 cs'.length c1,.slice o3 ps.length c3],.bool true]) (by simp [results,Tryz.results209,go_sem,at_cell HS.out.1]) rfl ⟨.slice o1 cs'.length c1,.slice o3 ps.length c3,by rw [HV.out],by rw [HV.out];exact HS.out.2.1,HS.out.2.2⟩
def cloneRen : Go.Shelf.Ren := ⟨fun | 316 => 176 | n => n,fun | 9 => 9 | 3 => 3 | 4 => 4 | 37 => 22 | 0 => 0 | 127 => 250 | 5 => 5 | n => n,fun | n => n⟩
theorem cloneLays : Go.Proofs.LaysM.n316 Tryz.prog cloneRen where
  mixed := by kernel_rfl
  f316 := Tryz.func176.trans (congrArg some (by kernel_rfl))
  t0 := Tryz.underlying0
  a0 := Tryz.isAgg0
  z0 := Tryz.sizeOf0
  v0 := Tryz.zeroValue0
  i0 := by kernel_rfl
  t3 := Tryz.underlying3
  a3 := Tryz.isAgg3
  z3 := Tryz.sizeOf3
  v3 := Tryz.zeroValue3
  i3 := by kernel_rfl
  t4 := Tryz.underlying4
  a4 := Tryz.isAgg4
  z4 := Tryz.sizeOf4
  v4 := Tryz.zeroValue4
  i4 := by kernel_rfl
  t9 := Tryz.underlying9
  a9 := Tryz.isAgg9
  z9 := Tryz.sizeOf9
  v9 := Tryz.zeroValue9
  i9 := by kernel_rfl
  t37 := Tryz.underlying22
  a37 := Tryz.isAgg22
  z37 := Tryz.sizeOf22
  v37 := Tryz.zeroValue22
  i37 := by kernel_rfl
  t127 := Tryz.underlying250
  a127 := Tryz.isAgg250
  z127 := Tryz.sizeOf250
  v127 := Tryz.zeroValue250
  i127 := by kernel_rfl
  t5 := Tryz.underlying5
  a5 := Tryz.isAgg5
  z5 := Tryz.sizeOf5
  v5 := Tryz.zeroValue5
  i5 := by kernel_rfl
theorem liteClone_any (s : ByteArray) (w : World) (hs : s.size <= 1099511627776) :
    Calls Tryz.prog 176 #[.string s] w fun e w' => e = .returned (.string s) /\ Below w.heap.size w w' := Any.stringslite_Clone cloneLays s w (by omega)
theorem clone_any (s : ByteArray) (w : World) (hs : s.size <= 1099511627776) :
    Calls Tryz.prog 116 #[.string s] w fun e w' => e = .returned (.string s) /\ Below w.heap.size w w' := by
  go_enter Tryz.func116,Tryz.ntmps116
  go_wp2_with fail
  refine (liteClone_any s _ hs).mono ?_;rintro e w1 ⟨rfl,b1⟩
  go_wp2_with fail
  go_ret;exact ⟨rfl,b1⟩
def runRight (r : Int × Int × Int) : Bool := decide (0 <= r.1) && decide (1 <= r.2.1) && decide (r.2.1 <= 16 - r.1) && decide (0 <= r.2.2) && decide (r.2.1 <= 24 - r.2.2)
theorem runRight_iff (f c p : Int) : runRight (f,c,p) = true ↔ 0 <= f /\ 1 <= c /\ c <= 16 - f /\ 0 <= p /\ c <= 24 - p := by
  simp only [runRight,Bool.and_eq_true,decide_eq_true_eq]
  omega
theorem runRight_no (f c p : Int) (h : ¬ (0 <= f /\ 1 <= c /\ c <= 16 - f /\ 0 <= p /\ c <= 24 - p)) : runRight (f,c,p) = false := by
  rw [Bool.eq_false_iff];exact fun q => h ((runRight_iff f c p).1 q)
theorem implRun_right (f c p : Int) (w : World) (hf : f <= 9223372036854775807) (hp : p <= 9223372036854775807) :
    Calls Tryz.prog 279 #[.agg #[.int .i64 f,.int .i64 c,.int .i64 p]] w fun e w' => e = .returned (.bool (runRight (f,c,p))) /\ Below w.heap.size w w' := by
  have HNO : Hid (∀ h : ¬ (0 <= f /\ 1 <= c /\ c <= 16 - f /\ 0 <= p /\ c <= 24 - p),runRight (f,c,p) = false) := runRight_no f c p;by_cases h1 : 0 <= f
  · by_cases h2 : 1 <= c
    · have e1 : IntKind.i64.wrap (16 - f) = 16 - f := by rw [IntKind.wrap_i64];omega
      by_cases h3 : c <= 16 - f
      · by_cases h4 : 0 <= p
        · have e2 : IntKind.i64.wrap (24 - p) = 24 - p := by rw [IntKind.wrap_i64];omega
          by_cases h5 : c <= 24 - p
          · have HV : Hid (runRight (f,c,p) = true) := (runRight_iff f c p).2 ⟨h1,h2,h3,h4,h5⟩
            go_enter Tryz.func279,Tryz.ntmps279
            go_wp2
            go_ret;exact ⟨ret_bool HV.out.symm,bw_alloc (Below.refl _ _)⟩
          · have HV := HNO.out (fun q => h5 q.2.2.2.2)
            have HH : Hid _ := HV;clear HV
            go_enter Tryz.func279,Tryz.ntmps279
            go_wp2
            go_ret;exact ⟨ret_bool HH.out.symm,bw_alloc (Below.refl _ _)⟩
        · have HH : Hid _ := HNO.out (fun q => h4 q.2.2.2.1)
          go_enter Tryz.func279,Tryz.ntmps279
          go_wp2
          go_ret;exact ⟨ret_bool HH.out.symm,bw_alloc (Below.refl _ _)⟩
      · have HH : Hid _ := HNO.out (fun q => h3 q.2.2.1)
        go_enter Tryz.func279,Tryz.ntmps279
        go_wp2
        go_ret;exact ⟨ret_bool HH.out.symm,bw_alloc (Below.refl _ _)⟩
    · have HH : Hid _ := HNO.out (fun q => h2 q.2.1)
      go_enter Tryz.func279,Tryz.ntmps279
      go_wp2
      go_ret;exact ⟨ret_bool HH.out.symm,bw_alloc (Below.refl _ _)⟩
  · have HH : Hid _ := HNO.out (fun q => h1 q.1)
    go_enter Tryz.func279,Tryz.ntmps279
    go_wp2
    go_ret;exact ⟨ret_bool HH.out.symm,bw_alloc (Below.refl _ _)⟩
theorem implRun_ahead (f c p f' c' p' : Int) (w : World) (h : 0 <= f /\ f <= 16 /\ 0 <= c /\ c <= 16) :
    Calls Tryz.prog 277 #[.agg #[.int .i64 f,.int .i64 c,.int .i64 p],.agg #[.int .i64 f',.int .i64 c',.int .i64 p']] w fun e w' => e = .returned (.bool (decide (f + c <= f'))) /\ Below w.heap.size w w' := by
  have e1 : IntKind.i64.wrap (f + c) = f + c := by rw [IntKind.wrap_i64];omega
  clear h
  go_enter Tryz.func277,Tryz.ntmps277
  go_wp2
  go_ret;exact ⟨ret_bool rfl,bw_alloc (bw_alloc (Below.refl _ _))⟩
theorem implRun_on (f c p f' c' p' : Int) (w : World) (h : 0 <= f /\ f <= 16 /\ 0 <= c /\ c <= 16 /\ 0 <= p /\ p <= 24) :
    Calls Tryz.prog 276 #[.agg #[.int .i64 f,.int .i64 c,.int .i64 p],.agg #[.int .i64 f',.int .i64 c',.int .i64 p']] w fun e w' => e = .returned (.bool (decide (f + c = f') && decide (p + c = p'))) /\ Below w.heap.size w w' := by
  have e1 : IntKind.i64.wrap (f + c) = f + c := by rw [IntKind.wrap_i64];omega
  have e2 : IntKind.i64.wrap (p + c) = p + c := by rw [IntKind.wrap_i64];omega
  clear h;by_cases h1 : f + c = f'
  · have h1b : (f + c == f') = true := by simpa using h1
    have HH : Hid ((p + c == p') = (decide (f + c = f') && decide (p + c = p'))) := by rw [Hid,decide_eq_true h1,Bool.true_and];rfl
    clear h1
    go_enter Tryz.func276,Tryz.ntmps276
    go_wp2
    go_ret;exact ⟨ret_bool HH.out,bw_alloc (bw_alloc (Below.refl _ _))⟩
  · have h1b : (f + c == f') = false := by simpa using h1
    have HH : Hid (false = (decide (f + c = f') && decide (p + c = p'))) := by rw [Hid,decide_eq_false h1,Bool.false_and]
    clear h1
    go_enter Tryz.func276,Tryz.ntmps276
    go_wp2
    go_ret;exact ⟨ret_bool HH.out,bw_alloc (bw_alloc (Below.refl _ _))⟩
theorem implRun_joined (f c p f' c' p' : Int) (w : World) (h : 0 <= c /\ c <= 16 /\ 0 <= c' /\ c' <= 16) :
    Calls Tryz.prog 278 #[.agg #[.int .i64 f,.int .i64 c,.int .i64 p],.agg #[.int .i64 f',.int .i64 c',.int .i64 p']] w fun e w' => e = .returned (.agg #[.int .i64 f,.int .i64 (c + c'),.int .i64 p]) /\ Below w.heap.size w w' := by
  have e1 : IntKind.i64.wrap (c + c') = c + c' := by rw [IntKind.wrap_i64];omega
  clear h
  go_enter Tryz.func278,Tryz.ntmps278
  go_wp2
  exact bodyPost_ret (v := .agg #[.int .i64 f,.int .i64 (c + c'),.int .i64 p]) (by simp [results,Tryz.results278,go_sem]) rfl ⟨rfl,by go_grown⟩
theorem placeOk_any (x : Int) (w : World) :
    Calls Tryz.prog 201 #[.int .i64 x] w fun e w' => e = .returned (.bool (decide (0 <= x) && decide (x <= 15))) /\ w' = w := by
  by_cases h1 : 0 <= x
  · by_cases h2 : x < 16
    · go_enter Tryz.func201,Tryz.ntmps201
      go_wp2
      go_ret;exact ⟨ret_bool (by rw [decide_eq_true h1,decide_eq_true (show x <= 15 by omega)];rfl),rfl⟩
    · go_enter Tryz.func201,Tryz.ntmps201
      go_wp2
      go_ret;exact ⟨ret_bool (by simp;omega),rfl⟩
  · go_enter Tryz.func201,Tryz.ntmps201
    go_wp2
    go_ret;exact ⟨ret_bool (by simp;omega),rfl⟩
theorem pageOrNoneOk_any (x : Int) (w : World) :
    Calls Tryz.prog 232 #[.int .i64 x] w fun e w' => e = .returned (.bool (decide (-1 <= x) && decide (x <= 23))) /\ w' = w := by
  by_cases h1 : -1 <= x
  · by_cases h2 : x < 24
    · go_enter Tryz.func232,Tryz.ntmps232
      go_wp2
      go_ret;exact ⟨ret_bool (by rw [decide_eq_true h1,decide_eq_true (show x <= 23 by omega)];rfl),rfl⟩
    · go_enter Tryz.func232,Tryz.ntmps232
      go_wp2
      go_ret;exact ⟨ret_bool (by simp;omega),rfl⟩
  · go_enter Tryz.func232,Tryz.ntmps232
    go_wp2
    go_ret;exact ⟨ret_bool (by simp;omega),rfl⟩
end Go.Proofs.YtmnhnhjefocicaaGreatDoor
