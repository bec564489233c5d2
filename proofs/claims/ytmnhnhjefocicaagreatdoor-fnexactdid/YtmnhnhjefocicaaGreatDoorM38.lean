import Derived.Test.YtmnhnhjefocicaaGreatDoorM26
import Derived.Test.YtmnhnhjefocicaaGreatDoorM27
import Derived.Test.YtmnhnhjefocicaaGreatDoorM31
import Derived.Test.YtmnhnhjefocicaaGreatDoorM35
import Derived.Test.YtmnhnhjefocicaaGreatDoorM37
namespace Go.Proofs.YtmnhnhjefocicaaGreatDoor
open Go.RowKit
set_option linter.unusedVariables false
set_option maxRecDepth 100000
set_option maxHeartbeats 3200000 in
theorem implShared_any (v1 v2 : Value) (cs ps : List Int) (at_ : Int) (w : World) (h1 : Reads w.heap.size w v1 (cs.map (Value.int .i64))) (h2 : Reads w.heap.size w v2 (ps.map (Value.int .i64))) :
    Calls Tryz.prog 234 #[.agg #[v1,v2],.int .i64 at_] w fun e w' => ∃ u1 u2 : Value,e = .returned (.tuple #[.agg #[u1,u2],.bool (shared cs ps at_).2]) /\ OwnP w.heap.size w' u1 u2 (shared cs ps at_).1.1 (shared cs ps at_).1.2 /\ Below w.heap.size w w' := by
  obtain ⟨W0,hW0,k0,k1,d0,z0⟩ := pool_start w v1 v2;have r1 := (h1.below d0).mono d0.size;have r2 := (h2.below d0).mono d0.size;have p0 := at_cell k0 0;have p1 := at_cell k0 1;have HW0 : Hid (W0 = _) := hW0;clear hW0 h1 h2
  go_enter Tryz.func234,Tryz.ntmps234
  go_wp2_with fail
  rw [<- HW0.out];clear HW0;refine (implPoolOk_any v1 v2 cs ps _ r1 r2).mono ?_;rintro e w1 ⟨rfl,b1⟩;replace k0 := (b1.block _ (by omega)).trans k0;replace k1 := (b1.block _ (by omega)).trans k1;replace r1 := (r1.below b1).mono b1.size;replace r2 := (r2.below b1).mono b1.size;replace d0 := bw_call d0 b1;have z1 : w.heap.size + 1 + 1 <= w1.heap.size := by have := b1.size;omega
  clear p0 p1 b1 z0;cases hok : poolOk cs ps
  · have HV : Hid (shared cs ps at_ = (([],[]),false)) := by simp [Hid,shared,hok]
    have q0 := at_cell k1 0;have q1 := at_cell k1 1;have f0 := at_open k1 0;have f1 := at_open k1 1;have HS : Hid _ := pool_end w w1 (.slice none 0 0) (.slice none 0 0) _ _ (w.heap.size + 1) [] [] (by omega) k1 (OwnP.nil _ _) d0;clear k0 k1 r1 r2 hok
    go_wp2_with fail
    exact bodyPost_ret (v := .tuple #[.agg #[.slice none 0 0,.slice none 0 0],.bool false]) (by simp [results,Tryz.results234,go_sem,at_cell HS.out.1]) rfl ⟨.slice none 0 0,.slice none 0 0,by rw [HV.out],by rw [HV.out];exact HS.out.2.1,HS.out.2.2⟩
  · have hb := (poolOk_iff cs ps).1 hok
    have HP : Hid (ps.length = cs.length) := hb.2.2.1;have hlc : cs.length <= 1048576 := by omega
    have hlp : ps.length <= 1048576 := by omega
    have hc1 : 1 <= cs.length := hb.1;have HOK : Hid (poolOk cs ps = true) := hok;have HB : Hid (∀ j,j < cs.length -> cellOk (cs.getD j 0) (ps.getD j 0) = true) := hb.2.2.2;have p0 := at_cell k0 0;have p1 := at_cell k0 1;clear hok hb
    go_wp2_with fail
    refine (countAt_any v1 v2 cs at_ _ r1).mono ?_;rintro e w2 ⟨rfl,b2⟩;replace k0 := (b2.block _ (heap_lt k0)).trans k0;replace k1 := (b2.block _ (heap_lt k1)).trans k1;replace r1 := (r1.below b2).mono b2.size;replace r2 := (r2.below b2).mono b2.size;replace d0 := bw_call d0 b2;replace z1 := Nat.le_trans z1 b2.size;clear p0 p1 b2;have p0 := at_cell k0 0;have p1 := at_cell k0 1;by_cases hcnt : countAt cs at_ < 1 \/ 400 <= countAt cs at_
    · have HV : Hid (shared cs ps at_ = ((cs,ps),false)) := by rw [Hid,shared,if_pos HOK.out,if_neg (by omega)]
      generalize countAt cs at_ = n at hcnt ⊢;rcases hcnt with hcnt | hcnt
      · go_wp2_with fail
        refine (samePool_any v1 v2 cs ps _ hlc hlp r1 r2).mono ?_;rintro e w4 ⟨u1,u2,rfl,own,b⟩;obtain ⟨o1,c1,rfl⟩ := own_slice own.c;obtain ⟨o2,c2,rfl⟩ := own_slice own.p;have k14 := (b.block _ (heap_lt k1)).trans k1;have HS : Hid _ := pool_end w w4 _ _ _ _ (w.heap.size + 1) _ _ (by omega) k14 (own.mono z1) (bw_call d0 b);have q0 := at_cell k14 0;have q1 := at_cell k14 1;have f0 := at_open k14 0;have f1 := at_open k14 1;clear own b k0 k1 r1 r2 p0 p1 k14
        go_wp2_with fail
        exact bodyPost_ret (v := .tuple #[.agg #[.slice o1 cs.length c1,.slice o2 ps.length c2],.bool false]) (by simp [results,Tryz.results234,go_sem,at_cell HS.out.1]) rfl ⟨.slice o1 cs.length c1,.slice o2 ps.length c2,by rw [HV.out],by rw [HV.out];exact HS.out.2.1,HS.out.2.2⟩
      · have hcn2 : ¬ n < 1 := by omega
        go_wp2_with fail
        refine (samePool_any v1 v2 cs ps _ hlc hlp r1 r2).mono ?_;rintro e w4 ⟨u1,u2,rfl,own,b⟩;obtain ⟨o1,c1,rfl⟩ := own_slice own.c;obtain ⟨o2,c2,rfl⟩ := own_slice own.p;have k14 := (b.block _ (heap_lt k1)).trans k1;have HS : Hid _ := pool_end w w4 _ _ _ _ (w.heap.size + 1) _ _ (by omega) k14 (own.mono z1) (bw_call d0 b);have q0 := at_cell k14 0;have q1 := at_cell k14 1;have f0 := at_open k14 0;have f1 := at_open k14 1;clear own b k0 k1 r1 r2 p0 p1 k14
        go_wp2_with fail
        exact bodyPost_ret (v := .tuple #[.agg #[.slice o1 cs.length c1,.slice o2 ps.length c2],.bool false]) (by simp [results,Tryz.results234,go_sem,at_cell HS.out.1]) rfl ⟨.slice o1 cs.length c1,.slice o2 ps.length c2,by rw [HV.out],by rw [HV.out];exact HS.out.2.1,HS.out.2.2⟩
    · have hcn : 1 <= countAt cs at_ /\ countAt cs at_ < 400 := by omega
      obtain ⟨k,rfl,hk,hce⟩ := countAt_pos cs at_ (by omega);have hk2 : k < ps.length := by rw [HP.out];exact hk
      obtain ⟨o2,cap2,rfl,m2,c2',hroom2⟩ := r2;obtain ⟨g2,off2,rfl,hg2,cc2⟩ := c2' k _ (getD_some ps k hk2);have hl0 : (ps.map (Value.int .i64)).length = ps.length := by simp
      have r2 : Reads w2.heap.size w2 (.slice (some ⟨g2,off2,none⟩) (ps.map (Value.int .i64)).length cap2) (ps.map (Value.int .i64)) := ⟨_,_,rfl,m2,c2',hroom2⟩
      rw [hl0] at k0 r2 p0 p1;have cck := (cellOk_iff _ _).1 (HB.out k hk);have i0 : (0 : Int) <= (k : Int) := by omega
      have i1 : (k : Int) < (ps.length : Int) := by omega
      clear m2 c2' hroom2 hl0 hcnt HB;have HV : Hid (shared cs ps (k : Int) = ((cs.set k (countAt cs (k : Int) + 1),ps),true)) := by rw [Hid,shared,if_pos HOK.out,if_pos hcn,Int.toNat_natCast]
      generalize countAt cs (k : Int) = n at *
      obtain ⟨cs',hcs⟩ : ∃ x,cs.set k (n + 1) = x := ⟨_,rfl⟩
      have HPS : Hid (ps.set k (ps.getD k 0) = ps) := set_same ps k;rw [hcs] at HV;have HCS : Hid _ := hcs;clear hcs hce cck;generalize ps.getD k 0 = y at *;obtain ⟨hcn1,hcn2⟩ := hcn;have hcn3 : ¬ n < 1 := by omega
      have hcn4 : ¬ 400 <= n := by omega
      have hwr : IntKind.i64.wrap (n + 1) = n + 1 := by rw [IntKind.wrap_i64];omega
      have P0 : w2.drew.cell? ⟨w.heap.size,0,none⟩ = some v1 := at_cell k0 0;have P1 : w2.drew.cell? ⟨w.heap.size,1,none⟩ = some (.slice (some ⟨g2,off2,none⟩) ps.length cap2) := at_cell k0 1;have R1 : Reads w2.drew.heap.size w2.drew v1 (cs.map (Value.int .i64)) := r1.below ((Below.refl _ _).drew);have R2 : Reads w2.drew.heap.size w2.drew (.slice (some ⟨g2,off2,none⟩) ps.length cap2) (ps.map (Value.int .i64)) := r2.below ((Below.refl _ _).drew);clear p0 p1
      go_wp2_with fail
      go_region_law (go_simp;go_at_call 207;refine (withCell_any v1 _ cs ps k (n + 1) y _ cs' ps HCS HPS hlc hlp hk hk2 R1 R2).mono ?_;rintro e w5 ⟨u1,u2,rfl,own5,b5⟩;obtain ⟨o1,c1,rfl⟩ := own_slice own5.c;obtain ⟨o3,c3,rfl⟩ := own_slice own5.p;have k51 := (b5.block _ (heap_lt k1)).trans k1;have q0 := at_cell k51 0;have q1 := at_cell k51 1;have f0 := at_open k51 0;have f1 := at_open k51 1;dsimp only)
      all_goals
        have HS : Hid _ := pool_end w w5 _ _ _ _ (w.heap.size + 1) _ _ (by omega) k51 (own5.mono z1) (bw_call (bw_drew d0) b5);clear own5 b5 k51 k0 k1 r1 r2 R1 R2 P0 P1 q0 q1 f0 f1
        go_wp2_with fail
        exact bodyPost_ret (v := .tuple #[.agg #[.slice o1 cs'.length c1,.slice o3 ps.length c3],.bool true]) (by simp [results,Tryz.results234,go_sem,at_cell HS.out.1]) rfl ⟨.slice o1 cs'.length c1,.slice o3 ps.length c3,by rw [HV.out],by rw [HV.out];exact HS.out.2.1,HS.out.2.2⟩
theorem OwnP.answer {base c : Nat} {W W' : World} {v1 v2 : Value} {cs ps : List Int} {xs : Array Value} (h : OwnP base W v1 v2 cs ps) (k : W.heap[c]? = some (.cells xs 39 (0,0))) (u : Upto c W W') : OwnP base W' v1 v2 cs ps := by
  have st : ∀ (v : Value) (n : Nat) (xs : List Value),W.ownsRow base 2 1 v n xs -> W'.ownsRow base 2 1 v n xs := fun v n xs hr => own_rng_not hr (fun q hq hqv => u.block q hq (fun hx => own_not_box hr k (by decide) (by rw [<- hx];exact hqv)))
  exact ⟨st _ _ _ h.c,st _ _ _ h.p,h.apart⟩
theorem sharedAll_take (s : List Int × List Int) (l : List Int) (j : Nat) (h : j < l.length) : sharedAllL s (l.take (j + 1)) = (shared (sharedAllL s (l.take j)).1 (sharedAllL s (l.take j)).2 (l.getD j 0)).1 := by
  rw [sharedAllL,List.take_succ_eq_append_getElem h,List.foldl_append,getD_of l j h];rfl
set_option maxHeartbeats 3200000 in
theorem sharedAll_any (base : Nat) (v1 v2 vl : Value) (cs ps l : List Int) (w : World) (hbase : base <= w.heap.size) (own : OwnP base w v1 v2 cs ps) (r : Reads w.heap.size w vl (l.map (Value.int .i64))) :
    Calls Tryz.prog 212 #[.agg #[v1,v2],vl] w fun e w' => ∃ u1 u2 : Value,e = .returned (.agg #[u1,u2]) /\ OwnP base w' u1 u2 (sharedAllL (cs,ps) l).1 (sharedAllL (cs,ps) l).2 /\ Below w.heap.size w w' := by
  obtain ⟨o1,k1,o2,k2,rfl,rfl⟩ := own.forms;obtain ⟨W0,hW0,kA,kR,d0,z0⟩ := box2 w #[.slice o1 cs.length k1,.slice o2 ps.length k2] #[.slice none 0 0,.slice none 0 0] 39 39;have HW0 : Hid (W0 = _) := hW0;have own0 := own.below d0;obtain ⟨o,cap,rfl,hm,hc,-⟩ := r;have C1 : Hid _ := cell_i64 hc;simp only [List.length_map] at hm ⊢;unfold maxLen at hm;have zz : w.heap.size + 1 < W0.heap.size := by omega
  have hb0 := d0.size;clear hW0 z0 own hc
  go_enter Tryz.func212,Tryz.ntmps212
  go_wp2_with fail
  rw [<- HW0.out];clear HW0
  go_loopw [9] (fun i wr => ∃ (j : Nat) (u1 u2 : Value),j <= l.length /\ i = .int .i64 j /\ wr.heap[w.heap.size]? = some (.cells #[u1,u2] 39 (0,0)) /\ wr.heap[w.heap.size + 1]? = some (.cells #[.slice none 0 0,.slice none 0 0] 39 (0,0)) /\ OwnP base wr u1 u2 (sharedAllL (cs,ps) (l.take j)).1 (sharedAllL (cs,ps) (l.take j)).2 /\ Below w.heap.size w wr) (fun i _ => l.length - (intOf i).toNat)
  case atStart => exact ⟨0,_,_,Nat.zero_le _,rfl,kA,kR,own0,d0⟩
  case round =>
    clear kA kR own0;obtain ⟨j,u1,u2,hj,rfl,kA,kR,own,hb⟩ := hrel;obtain ⟨q1,c1,q2,c2,e1,e2⟩ := own.forms;subst e1 e2;by_cases hlt : j < l.length
    · obtain ⟨g,off,hg,hgl,cc⟩ := C1.out j hlt
      subst hg;have HT : Hid _ := sharedAll_take (cs,ps) l j hlt;replace cc := (hb.cell (p := ⟨g,off + j,none⟩) hgl).trans cc;generalize l.getD j 0 = p at *;generalize sharedAllL (cs,ps) (l.take j) = S at *;obtain ⟨sc,sp⟩ := S;simp only at own HT kA;have p0 := at_cell kA 0;have p1 := at_cell kA 1;have t0 : (0 : Int) <= (j : Int) := by omega
      have t1 : (j : Int) < (l.length : Int) := by omega
      go_wp2_with fail
      clear p0 p1 cc;refine (implShared_any _ _ sc sp p _ own.r1 own.r2).mono ?_;rintro e w2 ⟨x1,x2,rfl,ow,b2⟩;obtain ⟨y1,d1,y2,d2,e1,e2⟩ := ow.forms;subst e1 e2;have kA2 := (b2.block _ (heap_lt kA)).trans kA;have kR2 := (b2.block _ (heap_lt kR)).trans kR;have sz := hb.size;have lA := heap_lt kA;have hs := set_two kA2 (.slice y1 (shared sc sp p).1.1.length d1) (.slice y2 (shared sc sp p).1.2.length d2);have kR3 := (hs.2.block _ (heap_lt kR2) (by omega)).trans kR2;have ow3 := (ow.upto hs.2 (by omega)).mono (show base <= wr.heap.size by omega);have hb3 := (bw_call hb b2).trans (hs.2.toBelow (by have := b2.size;omega) (Nat.le_refl _));have HO : Hid _ := And.intro hs.1 (And.intro kR3 (And.intro ow3 hb3));have q0 := at_cell kA2 0;have q1' := at_cell kA2 1;have f0 := at_open kA2 0;have f1 := at_open kA2 1;clear hs kR3 ow3 hb3 kA2 kR2 kA kR own ow b2 hb
      go_wp2_with fail
      go_roundw
      case rel => exact ⟨j + 1,_,_,by omega,by go_num,HO.out.1,HO.out.2.1,by rw [HT.out];exact HO.out.2.2.1,HO.out.2.2.2⟩
      case measure => simp [intOf] <;> omega
    · have htk : l.take j = l := List.take_of_length_le (by omega)
      rw [htk] at own kA;have hql : ¬ (j : Int) < (l.length : Int) := by omega
      have hs := set_two kR (.slice q1 (sharedAllL (cs,ps) l).1.length c1) (.slice q2 (sharedAllL (cs,ps) l).2.length c2);have ow4 := own.answer kR hs.2;have HS : Hid _ := And.intro hs.1 (And.intro ow4 (hb.trans (hs.2.toBelow hb.size (by omega))));clear hs ow4;have p0 := at_cell kA 0;have p1 := at_cell kA 1;have q0 := at_cell kR 0;have q1' := at_cell kR 1;have f0 := at_open kR 0;have f1 := at_open kR 1;clear htk own kA kR hb
      go_wp2_with fail
      exact bodyPost_ret (v := .agg #[.slice q1 (sharedAllL (cs,ps) l).1.length c1,.slice q2 (sharedAllL (cs,ps) l).2.length c2]) (by simp [results,Tryz.results212,go_sem,at_cell HS.out.1]) rfl ⟨_,_,rfl,HS.out.2⟩
theorem droppedAll_take (s : List Int × List Int) (l : List Int) (j : Nat) (h : j < l.length) : droppedAllL s (l.take (j + 1)) = (dropped (droppedAllL s (l.take j)).1 (droppedAllL s (l.take j)).2 (l.getD j 0)).1 := by
  rw [droppedAllL,List.take_succ_eq_append_getElem h,List.foldl_append,getD_of l j h];rfl
set_option maxHeartbeats 3200000 in
theorem droppedAll_any (base : Nat) (v1 v2 vl : Value) (cs ps l : List Int) (w : World) (hbase : base <= w.heap.size) (own : OwnP base w v1 v2 cs ps) (r : Reads w.heap.size w vl (l.map (Value.int .i64))) :
    Calls Tryz.prog 213 #[.agg #[v1,v2],vl] w fun e w' => ∃ u1 u2 : Value,e = .returned (.agg #[u1,u2]) /\ OwnP base w' u1 u2 (droppedAllL (cs,ps) l).1 (droppedAllL (cs,ps) l).2 /\ Below w.heap.size w w' := by
  obtain ⟨o1,k1,o2,k2,rfl,rfl⟩ := own.forms;obtain ⟨W0,hW0,kA,kR,d0,z0⟩ := box2 w #[.slice o1 cs.length k1,.slice o2 ps.length k2] #[.slice none 0 0,.slice none 0 0] 39 39;have HW0 : Hid (W0 = _) := hW0;have own0 := own.below d0;obtain ⟨o,cap,rfl,hm,hc,-⟩ := r;have C1 : Hid _ := cell_i64 hc;simp only [List.length_map] at hm ⊢;unfold maxLen at hm;have zz : w.heap.size + 1 < W0.heap.size := by omega
  have hb0 := d0.size;clear hW0 z0 own hc
  go_enter Tryz.func213,Tryz.ntmps213
  go_wp2_with fail
  rw [<- HW0.out];clear HW0
  go_loopw [9] (fun i wr => ∃ (j : Nat) (u1 u2 : Value),j <= l.length /\ i = .int .i64 j /\ wr.heap[w.heap.size]? = some (.cells #[u1,u2] 39 (0,0)) /\ wr.heap[w.heap.size + 1]? = some (.cells #[.slice none 0 0,.slice none 0 0] 39 (0,0)) /\ OwnP base wr u1 u2 (droppedAllL (cs,ps) (l.take j)).1 (droppedAllL (cs,ps) (l.take j)).2 /\ Below w.heap.size w wr) (fun i _ => l.length - (intOf i).toNat)
  case atStart => exact ⟨0,_,_,Nat.zero_le _,rfl,kA,kR,own0,d0⟩
  case round =>
    clear kA kR own0;obtain ⟨j,u1,u2,hj,rfl,kA,kR,own,hb⟩ := hrel;obtain ⟨q1,c1,q2,c2,e1,e2⟩ := own.forms;subst e1 e2;by_cases hlt : j < l.length
    · obtain ⟨g,off,hg,hgl,cc⟩ := C1.out j hlt
      subst hg;have HT : Hid _ := droppedAll_take (cs,ps) l j hlt;replace cc := (hb.cell (p := ⟨g,off + j,none⟩) hgl).trans cc;generalize l.getD j 0 = p at *;generalize droppedAllL (cs,ps) (l.take j) = S at *;obtain ⟨sc,sp⟩ := S;simp only at own HT kA;have p0 := at_cell kA 0;have p1 := at_cell kA 1;have t0 : (0 : Int) <= (j : Int) := by omega
      have t1 : (j : Int) < (l.length : Int) := by omega
      go_wp2_with fail
      clear p0 p1 cc;refine (implDropped_any _ _ sc sp p _ own.r1 own.r2).mono ?_;rintro e w2 ⟨x1,x2,rfl,ow,b2⟩;obtain ⟨y1,d1,y2,d2,e1,e2⟩ := ow.forms;subst e1 e2;have kA2 := (b2.block _ (heap_lt kA)).trans kA;have kR2 := (b2.block _ (heap_lt kR)).trans kR;have sz := hb.size;have lA := heap_lt kA;have hs := set_two kA2 (.slice y1 (dropped sc sp p).1.1.length d1) (.slice y2 (dropped sc sp p).1.2.length d2);have kR3 := (hs.2.block _ (heap_lt kR2) (by omega)).trans kR2;have ow3 := (ow.upto hs.2 (by omega)).mono (show base <= wr.heap.size by omega);have hb3 := (bw_call hb b2).trans (hs.2.toBelow (by have := b2.size;omega) (Nat.le_refl _));have HO : Hid _ := And.intro hs.1 (And.intro kR3 (And.intro ow3 hb3));have q0 := at_cell kA2 0;have q1' := at_cell kA2 1;have f0 := at_open kA2 0;have f1 := at_open kA2 1;clear hs kR3 ow3 hb3 kA2 kR2 kA kR own ow b2 hb
      go_wp2_with fail
      go_roundw
      case rel => exact ⟨j + 1,_,_,by omega,by go_num,HO.out.1,HO.out.2.1,by rw [HT.out];exact HO.out.2.2.1,HO.out.2.2.2⟩
      case measure => simp [intOf] <;> omega
    · have htk : l.take j = l := List.take_of_length_le (by omega)
      rw [htk] at own kA;have hql : ¬ (j : Int) < (l.length : Int) := by omega
      have hs := set_two kR (.slice q1 (droppedAllL (cs,ps) l).1.length c1) (.slice q2 (droppedAllL (cs,ps) l).2.length c2);have ow4 := own.answer kR hs.2;have HS : Hid _ := And.intro hs.1 (And.intro ow4 (hb.trans (hs.2.toBelow hb.size (by omega))));clear hs ow4;have p0 := at_cell kA 0;have p1 := at_cell kA 1;have q0 := at_cell kR 0;have q1' := at_cell kR 1;have f0 := at_open kR 0;have f1 := at_open kR 1;clear htk own kA kR hb
      go_wp2_with fail
      exact bodyPost_ret (v := .agg #[.slice q1 (droppedAllL (cs,ps) l).1.length c1,.slice q2 (droppedAllL (cs,ps) l).2.length c2]) (by simp [results,Tryz.results213,go_sem,at_cell HS.out.1]) rfl ⟨_,_,rfl,HS.out.2⟩
theorem OwnS.away {base c : Nat} {W W' : World} {v1 v2 vb : Value} {cs ps : List Int} {bks : List Bk} {xs : Array Value} (h : OwnS base W v1 v2 vb cs ps bks) (k : W.heap[c]? = some (.cells xs 96 (0,0))) (u : Upto c W W') (hv : ∀ q,vb.ownBlock = some q -> q ≠ c) : OwnS base W' v1 v2 vb cs ps bks := by
  have st : ∀ (e : TypeId) (kk n : Nat) (v : Value) (xs : List Value),96 ≠ e -> W.ownsRow base e kk v n xs -> W'.ownsRow base e kk v n xs := fun e kk n v xs he hr => own_rng_not hr (fun q hq hqv => u.block q hq (fun hx => own_not_box hr k he (by rw [<- hx];exact hqv)))
  exact ⟨⟨st _ _ _ _ _ (by decide) h.p.c,st _ _ _ _ _ (by decide) h.p.p,h.p.apart⟩,⟨own_rng_not h.b.row (fun q hq hqv => u.block q hq (hv q hqv)),fun b hb => st _ _ _ _ _ (by decide) (h.b.maps b hb)⟩,h.a⟩
theorem set_pool {W : World} {c : Nat} {x0 x1 x2 : Value} {T : TypeId} (k : W.heap[c]? = some (.cells #[x0,x1,x2] T (0,0))) (y0 y1 : Value) :
    ((W.setCell ⟨c,0,none⟩ y0).setCell ⟨c,1,none⟩ y1).heap[c]? = some (.cells #[y0,y1,x2] T (0,0)) /\ Upto c W ((W.setCell ⟨c,0,none⟩ y0).setCell ⟨c,1,none⟩ y1) :=
  ⟨set_at (set_at k 0 y0) 1 y1,((Upto.refl _ _).setCell ⟨c,0,none⟩ (.inl rfl) _).setCell ⟨c,1,none⟩ (.inl rfl) _⟩
theorem set_map {W : World} {c : Nat} {x0 x1 x2 x3 x4 : Value} {T : TypeId} (k : W.heap[c]? = some (.cells #[x0,x1,x2,x3,x4] T (0,0))) (y : Value) :
    (W.setCell ⟨c,2,none⟩ y).heap[c]? = some (.cells #[x0,x1,y,x3,x4] T (0,0)) /\ Upto c W (W.setCell ⟨c,2,none⟩ y) :=
  ⟨set_at k 2 y,(Upto.refl _ _).setCell ⟨c,2,none⟩ (.inl rfl) _⟩
set_option maxHeartbeats 3200000 in
theorem putPage_any (base i : Nat) (place page : Int) (v1 v2 vb : Value) (cs ps : List Int) (bks : List Bk) (w : World) (hbase : base <= w.heap.size) (hi : i < bks.length) (hl : bks.length <= 6) (hfit : FitRuns bks[i].rs) (own : OwnS base w v1 v2 vb cs ps bks) :
    Calls Tryz.prog 182 #[.agg #[v1,v2,vb],.int .i64 i,.int .i64 place,.int .i64 page] w fun e w' => ∃ u1 u2 ub m : Value,e = .returned (.agg #[u1,u2,ub]) /\ OwnS base w' u1 u2 ub (dropped cs ps (pageOf bks[i].rs place)).1.1 (dropped cs ps (pageOf bks[i].rs place)).1.2 (bks.set i ⟨bks[i].nm,bks[i].sz,m,(mapped bks[i].rs place page).1,bks[i].fx,bks[i].ep⟩) /\ Below w.heap.size w w' := by
  obtain ⟨o1,k1,o2,k2,ob,kb,rfl,rfl,rfl⟩ := own.forms;obtain ⟨g,cap,hvb⟩ := own.b.at i hi;cases hvb;obtain ⟨W0,hW0,kA,kR,d0,z0⟩ := box2 w #[.slice o1 cs.length k1,.slice o2 ps.length k2,.slice (some ⟨g,0,none⟩) bks.length kb] #[.slice none 0 0,.slice none 0 0,.slice none 0 0] 42 42;have own0 := own.below d0;have hmi := own0.b.maps _ (List.getElem_mem hi);obtain ⟨⟨a0,a1,a2,a3,a4⟩,-⟩ := own_five own0.b.row i hi;have hg0 : g < W0.heap.size := (own0.b.row.lt g rfl).2
  obtain ⟨x,hx⟩ : ∃ x,bks[i] = x := ⟨_,rfl⟩
  have hmem : x ∈ bks := hx ▸ List.getElem_mem hi;rw [hx] at hmi hfit a0 a1 a2 a3 a4 ⊢;clear hx;obtain ⟨xn,xs,xm,xr,xf,xe⟩ := x;simp only at hmi hfit a0 a1 a2 a3 a4 ⊢;obtain ⟨om,cm,hxm⟩ := own_slice hmi;subst hxm;have HM : Hid ((⟨xn,xs,.slice om xr.length cm,xr,xf,xe⟩ : Bk) ∈ bks) := hmem;clear hmem;obtain ⟨W1,hW1,kB,d1,z1⟩ := box1 W0 #[.string xn,.int .i64 xs,.slice om xr.length cm,.bool xf,.int .i64 xe] 96;have hW1b := hW1;rw [hW0] at hW1b;have HW1 : Hid (W1 = _) := hW1b;have pA := at_cell kA 2;have own1 : OwnS base W1.drew _ _ _ cs ps bks := (own0.below d1).below ((Below.refl _ _).drew);have rm1 : ReadsR 3 runC W1.drew.heap.size W1.drew (.slice om xr.length cm) xr := ReadsR.of_own runC_len (owns_below (owns_below hmi d1) ((Below.refl _ _).drew));have kA1 := (d1.block _ (heap_lt kA)).trans kA;have kR1 := (d1.block _ (heap_lt kR)).trans kR;have S0 : W1.drew.cell? ⟨w.heap.size,0,none⟩ = some (.slice o1 cs.length k1) := at_cell kA1 0;have S1 : W1.drew.cell? ⟨w.heap.size,1,none⟩ = some (.slice o2 ps.length k2) := at_cell kA1 1;rw [z0] at kB;have T2 : W1.drew.cell? ⟨w.heap.size + 1 + 1,2,none⟩ = some (.slice om xr.length cm) := at_cell kB 2;have dW := bw_call d0 d1;have zz : w.heap.size + 1 + 1 < W1.heap.size := by omega
  have zg : g < w.heap.size + 1 + 1 := by omega
  have i0 : (0 : Int) <= (i : Int) := by omega
  have i1 : (i : Int) < (bks.length : Int) := by omega
  rw [hW0] at pA a0 a1 a2 a3 a4;clear hW1 hW1b z1 own own0 hmi d1 kA kR hW0 z0 d0 hg0;have hdr : ∀ (v1 v2 : Value) (w : World) (h1 : Reads w.heap.size w v1 (cs.map (Value.int .i64))) (h2 : Reads w.heap.size w v2 (ps.map (Value.int .i64))),_ := fun v1 v2 w h1 h2 => implDropped_any v1 v2 cs ps (pageOf xr place) w h1 h2
  obtain ⟨D,hD⟩ : ∃ D,dropped cs ps (pageOf xr place) = D := ⟨_,rfl⟩
  simp only [hD] at hdr ⊢;have hmp : ∀ (v : Value) (w : World) (r : ReadsR 3 runC w.heap.size w v xr),_ := fun v w r => implMapped_any v xr place page w hfit r
  obtain ⟨M,hM⟩ : ∃ M,mapped xr place page = M := ⟨_,rfl⟩
  simp only [hM] at hmp ⊢;clear hD hM;obtain ⟨⟨D1,D2⟩,D3⟩ := D;obtain ⟨M1,M2⟩ := M;simp only at hdr hmp ⊢
  go_enter Tryz.func182,Tryz.ntmps182
  go_upto_region 2 with fail
  rw [<- HW1.out];clear HW1 pA a0 a1 a2 a3 a4
  go_region_law (first
      | (go_simp;go_at_call 175;refine (implPageOf_any _ xr place _ hfit rm1).mono ?_;rintro e w5 ⟨rfl,b5⟩;have kA5 := (b5.block _ (heap_lt kA1)).trans kA1;have kR5 := (b5.block _ (heap_lt kR1)).trans kR1;have kB5 := (b5.block _ (heap_lt kB)).trans kB;have own5 := own1.below b5;have A0 := at_cell kA5 0;have A1 := at_cell kA5 1;dsimp only)
      | (go_simp;go_at_call 209;refine (hdr _ _ _ own5.p.r1 own5.p.r2).mono ?_;rintro e w6 ⟨u1,u2,rfl,ow6,b6⟩;obtain ⟨y1,d1,y2,d2,e1,e2⟩ := ow6.forms;subst e1 e2;have kA6 := (b6.block _ (heap_lt kA5)).trans kA5;have kR6 := (b6.block _ (heap_lt kR5)).trans kR5;have kB6 := (b6.block _ (heap_lt kB5)).trans kB5;have own6 := own5.below b6;have q0 := at_cell kA6 0;have q1 := at_cell kA6 1;have f0 := at_open kA6 0;have f1 := at_open kA6 1;dsimp only))
  all_goals
    have hs := set_pool kA6 (.slice y1 D1.length d1) (.slice y2 D2.length d2);have sz5 := b5.size;have sz6 := b6.size;have szd : W1.drew.heap.size = W1.heap.size := rfl
    have own7 : OwnS base w6 (.slice y1 D1.length d1) (.slice y2 D2.length d2) (.slice (some ⟨g,0,none⟩) bks.length kb) D1 D2 bks := ⟨ow6.mono (by omega),own6.b,own6.a⟩
    replace own7 := own7.answer kA6 hs.2;have kR7 := (hs.2.block _ (heap_lt kR6) (by omega)).trans kR6;have kB7 := (hs.2.block _ (heap_lt kB6) (by omega)).trans kB6;have d7 := (bw_call (bw_call (bw_drew dW) b5) b6).trans (hs.2.toBelow (by omega) (Nat.le_refl _));have sz7 := hs.2.size;replace hs := hs.1
    obtain ⟨W2,hW2⟩ : ∃ W2,W2 = (w6.setCell ⟨w.heap.size,0,none⟩ (.slice y1 D1.length d1)).setCell ⟨w.heap.size,1,none⟩ (.slice y2 D2.length d2) := ⟨_,rfl⟩
    rw [<- hW2] at hs own7 kR7 kB7 d7 sz7 ⊢;have hm7 : ReadsR 3 runC W2.heap.size W2 (.slice om xr.length cm) xr := ReadsR.of_own runC_len (own7.b.maps _ HM.out);have T2 := at_cell kB7 2;clear hW2 q0 q1 f0 f1 A0 A1 kA5 kA6 kR5 kR6 kB5 kB6 own5 own6 ow6 b5 b6 rm1 kA1 kR1 kB S0 S1 own1 dW
    go_wp2_with fail
    refine (hmp _ _ hm7).mono ?_;rintro e w8 ⟨m',rfl,om8,-,b8⟩;have hap := apart_new own7.b (Nat.le_refl _) (fun q hq => (om8.lt q hq).1) i;obtain ⟨om',cm',hm'⟩ := own_slice om8;subst hm';have kA8 := (b8.block _ (heap_lt hs)).trans hs;have kR8 := (b8.block _ (heap_lt kR7)).trans kR7;have kB8 := (b8.block _ (heap_lt kB7)).trans kB7;have lA := heap_lt kA8;have lR := heap_lt kR8;have sz8 := b8.size;have hp := set_map kB8 (.slice om' M1.length cm');have own9 := (own7.below b8).away kB8 hp.2 (fun q hq => by cases hq;show g ≠ w.heap.size + 1 + 1;omega);have om9 : World.ownsRow _ base 149 3 (.slice om' M1.length cm') M1.length (M1.flatMap runC) := owns_mono (ownsRow_upto om8 hp.2 (by omega)) (by omega);have kA9 := (hp.2.block _ lA (by omega)).trans kA8;have kR9 := (hp.2.block _ lR (by omega)).trans kR8;have d9 := (bw_call d7 b8).trans (hp.2.toBelow (by omega) (by omega));have sz9 := hp.2.size;have kB9 := hp.1;have f2 := at_open kB8 2;have q2 := at_cell kB8 2
    obtain ⟨W3,hW3⟩ : ∃ W3,W3 = w8.setCell ⟨w.heap.size + 1 + 1,2,none⟩ (.slice om' M1.length cm') := ⟨_,rfl⟩
    rw [<- hW3] at own9 om9 kA9 kR9 kB9 d9 sz9;have HW3 : Hid (W3 = _) := hW3;have hb9 : base <= W3.heap.size := by omega
    clear hW3 hp hs kA8 kR8 kB8 kR7 kB7 own7 om8 b8 T2 hm7 d7
    go_upto_region 4 with fail
    rw [<- HW3.out];clear HW3 f2 q2;have S0 := at_cell kA9 0;have S1 := at_cell kA9 1;have S2 := at_cell kA9 2;obtain ⟨T0,T1,T2,T3,T4⟩ := c5 kB9
    go_wp2_with fail
    refine (putBook_any base i _ _ _ D1 D2 bks ⟨xn,xs,.slice om' M1.length cm',M1,xf,xe⟩ _ hb9 hi hl own9 om9 hap).mono ?_;rintro e w6 ⟨ub,rfl,ow,b6⟩;obtain ⟨_,_,_,_,o6,c6,-,-,hub⟩ := ow.forms;rw [List.length_set] at hub;subst hub;have kR6 := (b6.block _ (heap_lt kR9)).trans kR9;have HS : Hid _ := shelf_put (w := w) kR6 (by omega) (bw_call d9 b6) (.slice y1 D1.length d1) (.slice y2 D2.length d2) (.slice o6 bks.length c6);have HF : Hid _ := OwnS.answer ow kR6 HS.out.2.1;have r0 := at_cell kR6 0;have r1 := at_cell kR6 1;have r2 := at_cell kR6 2;have e0 := at_open kR6 0;have e1 := at_open kR6 1;have e2 := at_open kR6 2;clear ow b6 kR6 own9 om9 kA9 kR9 kB9 S0 S1 S2 T0 T1 T2 T3 T4 d9
    go_wp2_with fail
    exact bodyPost_ret (v := .agg #[.slice y1 D1.length d1,.slice y2 D2.length d2,.slice o6 bks.length c6]) (by simp [results,Tryz.results182,go_sem,at_cell HS.out.1]) rfl ⟨_,_,_,_,rfl,⟨HF.out.1,HF.out.2,HF.out.3⟩,HS.out.2.2⟩
end Go.Proofs.YtmnhnhjefocicaaGreatDoor
