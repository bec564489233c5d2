import Derived.Deep.RegionHeld3
import Derived.Test.YtmnhnhjefocicaaGreatDoorM08
import Derived.Test.YtmnhnhjefocicaaGreatDoorM27
import Derived.Test.YtmnhnhjefocicaaGreatDoorM30
import Derived.Test.YtmnhnhjefocicaaGreatDoorM38
namespace Go.Proofs.YtmnhnhjefocicaaGreatDoor
open Go.RowKit
set_option linter.unusedVariables false
set_option maxRecDepth 100000
def WrPost (ad : Nat -> Addr) (base i : Nat) (bks : List Bk) (b : Bk) (X : Option ((List Int × List Int) × List (Int × Int × Int))) (e : Ending) (w' : World) : Prop :=
  match X with
  | none => e = .returned (.tuple #[.agg #[.slice none 0 0,.slice none 0 0,.slice none 0 0],refErr ad 9])
  | some X => ∃ u1 u2 ub m : Value,e = .returned (.tuple #[.agg #[u1,u2,ub],.nilIface]) /\ OwnS base w' u1 u2 ub X.1.1 X.1.2 (bks.set i ⟨b.nm,b.sz,m,X.2,b.fx,b.ep⟩)
theorem countAt_one {cs : List Int} {p : Int} (h : countAt cs p = 1) : ∃ k : Nat,p = k /\ k < cs.length := by
  unfold countAt at h
  split at h
  · rename_i q
    exact ⟨p.toNat,by omega,by omega⟩
  · cases h
set_option maxHeartbeats 3200000 in
theorem written_any (base i : Nat) (v1 v2 vb : Value) (cs ps : List Int) (bks : List Bk) (k : Int) (nm ot : ByteArray) (at_ va ep : Int) (w : World) (ad : Nat -> Addr) (hv : Vars w ad) (hbase : base <= w.heap.size) (hi : i < bks.length) (hl : bks.length <= 6) (hlen : cs.length = ps.length) (hc : cs.length <= 1048576) (hfit : FitRuns bks[i].rs) (own : OwnS base w v1 v2 vb cs ps bks) :
    Calls Tryz.prog 181 #[.agg #[v1,v2,vb],.int .i64 i,.agg #[.int .i64 k,.string nm,.string ot,.int .i64 at_,.int .i64 va,.int .i64 ep]] w fun e w' => WrPost ad base i bks bks[i] (writtenS cs ps bks[i].rs at_ va) e w' /\ Below w.heap.size w w' := by
  have hput : ∀ (page : Int) (v1 v2 vb : Value) (cs ps : List Int) (w : World) (hbase : base <= w.heap.size) (own : OwnS base w v1 v2 vb cs ps bks),_ := fun page v1 v2 vb cs ps w hbase own => putPage_any base i at_ page v1 v2 vb cs ps bks w hbase hi hl hfit own
  obtain ⟨o1,k1,o2,k2,ob,kb,rfl,rfl,rfl⟩ := own.forms;obtain ⟨g,cap,hvb⟩ := own.b.at i hi;cases hvb;obtain ⟨W0,hW0,kA,kO,kR,d0,z0⟩ := box3 w #[.slice o1 cs.length k1,.slice o2 ps.length k2,.slice (some ⟨g,0,none⟩) bks.length kb] #[.int .i64 k,.string nm,.string ot,.int .i64 at_,.int .i64 va,.int .i64 ep] #[.slice none 0 0,.slice none 0 0,.slice none 0 0] 42 26 42;have own0 := own.below d0;have hmi := own0.b.maps _ (List.getElem_mem hi);obtain ⟨⟨a0,a1,a2,a3,a4⟩,-⟩ := own_five own0.b.row i hi;have HSE : Hid (∀ y : Bk,y = bks[i] -> bks.set i y = bks) := fun y hy => by rw [hy,List.set_getElem_self]
  obtain ⟨x,hx⟩ : ∃ x,bks[i] = x := ⟨_,rfl⟩
  rw [hx] at hmi hfit a2 HSE ⊢;simp only [hx] at hput;clear hx a0 a1 a3 a4;obtain ⟨xn,xs,xm,xr,xf,xe⟩ := x;simp only at hmi hfit a2 hput ⊢;obtain ⟨om,cm,hxm⟩ := own_slice hmi;subst hxm;have HW0 : Hid (W0 = _) := hW0;have rm : ReadsR 3 runC W0.drew.heap.size W0.drew (.slice om xr.length cm) xr := ReadsR.of_own runC_len (owns_below hmi ((Below.refl _ _).drew));have ownd : OwnS base W0.drew _ _ _ cs ps bks := own0.below ((Below.refl _ _).drew);have hvd : Vars W0.drew ad := (hv.below d0).below ((Below.refl _ _).drew);have pA : W0.drew.cell? ⟨w.heap.size,2,none⟩ = some (.slice (some ⟨g,0,none⟩) bks.length kb) := at_cell kA 2;have pO : W0.drew.cell? ⟨w.heap.size + 1,3,none⟩ = some (.int .i64 at_) := at_cell kO 3;have pM : W0.drew.cell? ⟨g,i * 5 + 2,none⟩ = some (.slice om xr.length cm) := a2;have i0 : (0 : Int) <= (i : Int) := by omega
  have i1 : (i : Int) < (bks.length : Int) := by omega
  have zb : base <= W0.heap.size := by omega
  have zr : w.heap.size + 1 + 1 < W0.heap.size := by omega
  have HLEN : Hid (cs.length = ps.length) := hlen;have HG : Hid (1 < w.heap.size) := cell_lt (hv.cell 1 (by decide));have HFX : Hid (FitRuns xr) := hfit;have dd := bw_drew d0;clear hW0 z0 own own0 hmi hv hlen hfit a2 d0
  go_enter Tryz.func181,Tryz.ntmps181
  go_wp2_with fail
  rw [<- HW0.out];clear HW0;have hpo : ∀ (w : World) (r : ReadsR 3 runC w.heap.size w (.slice om xr.length cm) xr),_ := fun w r => implPageOf_any _ xr at_ w HFX.out r
  obtain ⟨p,hpp⟩ : ∃ p,pageOf xr at_ = p := ⟨_,rfl⟩
  have HPP : Hid (pageOf xr at_ = p) := hpp;simp only [hpp] at hpo hput;clear hpp
  have HK0 : ∀ W',Below W0.heap.size W0 W' -> (W'.cell? ⟨w.heap.size,2,none⟩ = some (.slice (some ⟨g,0,none⟩) bks.length kb) /\ W'.cell? ⟨w.heap.size + 1,3,none⟩ = some (.int .i64 at_) /\ W'.cell? ⟨g,i * 5 + 2,none⟩ = some (.slice om xr.length cm)) := fun W' hb => ⟨at_cell ((hb.block _ (heap_lt kA)).trans kA) 2,at_cell ((hb.block _ (heap_lt kO)).trans kO) 3,(hb.cell (p := ⟨g,i * 5 + 2,none⟩) (cell_lt pM)).trans pM⟩
  have B1 : Below W0.heap.size W0 W0.drew := bw_drew (Below.refl _ _);clear pA pO
  go_region_held3 (fun w' => w'.cell? ⟨w.heap.size,2,none⟩ = some (.slice (some ⟨g,0,none⟩) bks.length kb) /\ w'.cell? ⟨w.heap.size + 1,3,none⟩ = some (.int .i64 at_) /\ w'.cell? ⟨g,i * 5 + 2,none⟩ = some (.slice om xr.length cm))
    ((refine HK0 _ ?_;repeat (first | exact Below.refl _ _ | exact B3 | refine bw_drew ?_)))
    ((go_at_call 175;refine (hpo _ rm).mono ?_;rintro e w1 ⟨rfl,b1⟩;have B3 : Below W0.heap.size W0 w1 := bw_call B1 b1;skip))
  all_goals
    replace kA := (b1.block _ (heap_lt kA)).trans kA;replace kO := (b1.block _ (heap_lt kO)).trans kO;replace kR := (b1.block _ (heap_lt kR)).trans kR;have own0 := ownd.below b1;have hv0 := hvd.below b1;have d0 := bw_call dd b1;have sz1 : W0.heap.size <= w1.heap.size := b1.size;clear rm b1 ownd hvd dd pM hpo HK0 B1 B3;obtain ⟨S0,S1⟩ := c2 kA
    go_wp2_with fail
    refine (countAt_any _ _ cs p _ own0.p.r1).mono ?_;rintro e w2 ⟨rfl,b2⟩;replace kA := (b2.block _ (heap_lt kA)).trans kA;replace kO := (b2.block _ (heap_lt kO)).trans kO;replace kR := (b2.block _ (heap_lt kR)).trans kR;replace own0 := own0.below b2;replace hv0 := hv0.below b2;replace d0 := bw_call d0 b2;replace sz1 := Nat.le_trans sz1 b2.size;clear b2 S0 S1
    obtain ⟨c,hcc⟩ : ∃ c,countAt cs p = c := ⟨_,rfl⟩
    have HCC : Hid (countAt cs p = c) := hcc;rw [hcc];clear hcc;by_cases h1 : c = 1
    · subst h1
      obtain ⟨kk,hkk,hk⟩ := countAt_one HCC.out;subst hkk;have hk2 : kk < ps.length := HLEN.out ▸ hk
      obtain ⟨cs',hcs'⟩ : ∃ cs',cs.set kk 1 = cs' := ⟨_,rfl⟩
      obtain ⟨ps',hps'⟩ : ∃ ps',ps.set kk va = ps' := ⟨_,rfl⟩
      have HCS : Hid (cs.set kk 1 = cs') := hcs';have HPS : Hid (ps.set kk va = ps') := hps';have S0 : w2.drew.cell? ⟨w.heap.size,0,none⟩ = some (.slice o1 cs.length k1) := at_cell kA 0;have S1 : w2.drew.cell? ⟨w.heap.size,1,none⟩ = some (.slice o2 ps.length k2) := at_cell kA 1;have S2 : w2.drew.cell? ⟨w.heap.size,2,none⟩ = some (.slice (some ⟨g,0,none⟩) bks.length kb) := at_cell kA 2;have S4 : w2.drew.cell? ⟨w.heap.size + 1,4,none⟩ = some (.int .i64 va) := at_cell kO 4;have ownd : OwnS base w2.drew _ _ _ cs ps bks := own0.below ((Below.refl _ _).drew);clear hcs' hps'
      go_wp2_with fail
      have hp1 : ps.length <= 1048576 := HLEN.out ▸ hc
      have HX : Hid (writtenS cs ps xr at_ va = some ((cs',ps'),xr)) := by
        show writtenS cs ps xr at_ va = some ((cs',ps'),xr)
        rw [writtenS,HPP.out,if_pos HCC.out,Int.toNat_natCast,HCS.out,HPS.out]
      have HKeep : ∀ W',Below w2.heap.size w2 W' -> (W'.cell? ⟨w.heap.size,0,none⟩ = some (.slice o1 cs.length k1) /\ W'.cell? ⟨w.heap.size,1,none⟩ = some (.slice o2 ps.length k2) /\ W'.cell? ⟨w.heap.size,2,none⟩ = some (.slice (some ⟨g,0,none⟩) bks.length kb) /\ W'.cell? ⟨w.heap.size + 1,4,none⟩ = some (.int .i64 va)) := fun W' hb => by
        have x1 := (hb.block _ (heap_lt kA)).trans kA;have x2 := (hb.block _ (heap_lt kO)).trans kO;exact ⟨at_cell x1 0,at_cell x1 1,at_cell x1 2,at_cell x2 4⟩
      have HKeep2 : ∀ (W' : World) (y0 y1 y2 : Value),Below w2.heap.size w2 W' -> ((((W'.setCell ⟨w.heap.size + 1 + 1,0,none⟩ y0).setCell ⟨w.heap.size + 1 + 1,1,none⟩ y1).setCell ⟨w.heap.size + 1 + 1,2,none⟩ y2).cell? ⟨w.heap.size,0,none⟩ = some (.slice o1 cs.length k1) /\ (((W'.setCell ⟨w.heap.size + 1 + 1,0,none⟩ y0).setCell ⟨w.heap.size + 1 + 1,1,none⟩ y1).setCell ⟨w.heap.size + 1 + 1,2,none⟩ y2).cell? ⟨w.heap.size,1,none⟩ = some (.slice o2 ps.length k2) /\ (((W'.setCell ⟨w.heap.size + 1 + 1,0,none⟩ y0).setCell ⟨w.heap.size + 1 + 1,1,none⟩ y1).setCell ⟨w.heap.size + 1 + 1,2,none⟩ y2).cell? ⟨w.heap.size,2,none⟩ = some (.slice (some ⟨g,0,none⟩) bks.length kb) /\ (((W'.setCell ⟨w.heap.size + 1 + 1,0,none⟩ y0).setCell ⟨w.heap.size + 1 + 1,1,none⟩ y1).setCell ⟨w.heap.size + 1 + 1,2,none⟩ y2).cell? ⟨w.heap.size + 1,4,none⟩ = some (.int .i64 va)) := fun W' y0 y1 y2 hb => by
        have u : Upto (w.heap.size + 1 + 1) W' (((W'.setCell ⟨w.heap.size + 1 + 1,0,none⟩ y0).setCell ⟨w.heap.size + 1 + 1,1,none⟩ y1).setCell ⟨w.heap.size + 1 + 1,2,none⟩ y2) := (((Upto.refl _ _).setCell ⟨_,0,none⟩ (.inl rfl) _).setCell ⟨_,1,none⟩ (.inl rfl) _).setCell ⟨_,2,none⟩ (.inl rfl) _;have x1 := (hb.block _ (heap_lt kA)).trans kA;have x2 := (hb.block _ (heap_lt kO)).trans kO;have x1 := (u.block _ (heap_lt x1) (by omega)).trans x1;have x2 := (u.block _ (heap_lt x2) (by omega)).trans x2;exact ⟨at_cell x1 0,at_cell x1 1,at_cell x1 2,at_cell x2 4⟩
      have A1 : Below w2.heap.size w2 w2.drew := bw_drew (Below.refl _ _);clear S0 S1 S2 S4
      go_region_held3 (fun w' => w'.cell? ⟨w.heap.size,0,none⟩ = some (.slice o1 cs.length k1) /\ w'.cell? ⟨w.heap.size,1,none⟩ = some (.slice o2 ps.length k2) /\ w'.cell? ⟨w.heap.size,2,none⟩ = some (.slice (some ⟨g,0,none⟩) bks.length kb) /\ w'.cell? ⟨w.heap.size + 1,4,none⟩ = some (.int .i64 va))
        ((first | (refine HKeep2 _ _ _ _ ?_;exact A3) | (refine HKeep _ ?_;repeat (first | exact Below.refl _ _ | exact A3 | refine bw_drew ?_))))
        ((go_at_call 207;refine (withCell_any _ _ cs ps kk 1 va _ cs' ps' HCS HPS hc hp1 hk hk2 ownd.p.r1 ownd.p.r2).mono ?_;rintro e w3 ⟨u1,u2,rfl,ow3,b3⟩;obtain ⟨y1,d1,y2,d2,e1,e2⟩ := ow3.forms;subst e1 e2;have A3 : Below w2.heap.size w2 w3 := bw_call A1 b3;have kR3 := (A3.block _ (heap_lt kR)).trans kR;have r0 := at_cell kR3 0;have r1 := at_cell kR3 1;have r2 := at_cell kR3 2;have e0 := at_open kR3 0;have e1 := at_open kR3 1;have e2 := at_open kR3 2;skip))
      all_goals
        have sz3 := b3.size;have szd : w2.drew.heap.size = w2.heap.size := rfl
        have owA : OwnS base w3 (.slice y1 cs'.length d1) (.slice y2 ps'.length d2) (.slice (some ⟨g,0,none⟩) bks.length kb) cs' ps' bks := ⟨ow3.mono (by omega),(ownd.below b3).b,ownd.a⟩
        have HS : Hid _ := shelf_put (w := w) kR3 (by omega) (bw_call (bw_drew d0) b3) (.slice y1 cs'.length d1) (.slice y2 ps'.length d2) (.slice (some ⟨g,0,none⟩) bks.length kb);have HF : Hid _ := OwnS.answer owA kR3 HS.out.2.1;clear owA ow3 b3 kR3 kA kO kR own0 ownd hv0 d0 HKeep HKeep2 A1 A3
        go_wp2_with fail
        exact bodyPost_ret (v := .tuple #[.agg #[.slice y1 cs'.length d1,.slice y2 ps'.length d2,.slice (some ⟨g,0,none⟩) bks.length kb],.nilIface]) (by simp [results,Tryz.results181,go_sem,at_cell HS.out.1]) rfl ⟨by rw [HX.out];exact ⟨_,_,_,.slice om xr.length cm,rfl,by rw [HSE.out _ rfl];exact ⟨HF.out.1,HF.out.2,HF.out.3⟩⟩,HS.out.2.2⟩
    · have hne : (c == 1) = false := by rw [beq_eq_false_iff_ne];exact h1
      have htk : ∀ (v1 v2 : Value) (w : World) (h1 : Reads w.heap.size w v1 (cs.map (Value.int .i64))) (h2 : Reads w.heap.size w v2 (ps.map (Value.int .i64))),_ := fun v1 v2 w h1 h2 => implTaken_any v1 v2 cs ps va w h1 h2
      obtain ⟨T,hT⟩ : ∃ T,takenPage cs ps va = T := ⟨_,rfl⟩
      simp only [hT] at htk;have HT : Hid (takenPage cs ps va = T) := hT;clear hT;obtain ⟨⟨T1,T2⟩,t⟩ := T;simp only at htk;obtain ⟨S0,S1⟩ := c2 kA;have S4 := at_cell kO 4;have HC1 : Hid (¬ countAt cs p = 1) := fun e => h1 (HCC.out.symm.trans e)
      clear h1
      go_wp2_with fail
      refine (htk _ _ _ own0.p.r1 own0.p.r2).mono ?_;rintro e w3 ⟨u1,u2,rfl,ow3,b3⟩;obtain ⟨y1,d1,y2,d2,e1,e2⟩ := ow3.forms;subst e1 e2;obtain ⟨W4,hW4,kP,d4,z4⟩ := box1 w3 #[.slice y1 T1.length d1,.slice y2 T2.length d2] 39;have HW4 : Hid (W4 = _) := hW4;have kA4 := (d4.block _ (heap_lt ((b3.block _ (heap_lt kA)).trans kA))).trans ((b3.block _ (heap_lt kA)).trans kA);have kO4 := (d4.block _ (heap_lt ((b3.block _ (heap_lt kO)).trans kO))).trans ((b3.block _ (heap_lt kO)).trans kO);have kR4 := (d4.block _ (heap_lt ((b3.block _ (heap_lt kR)).trans kR))).trans ((b3.block _ (heap_lt kR)).trans kR);have hv4 := (hv0.below b3).below d4;have sz3 := b3.size;have owB : OwnS base W4 (.slice y1 T1.length d1) (.slice y2 T2.length d2) (.slice (some ⟨g,0,none⟩) bks.length kb) T1 T2 bks := OwnS.below ⟨ow3.mono (by omega),(own0.below b3).b,own0.a⟩ d4;have dd := bw_call (bw_call d0 b3) d4;clear hW4 kA kO kR hv0 own0 ow3 b3 d4 S0 S1 S4 d0 htk;by_cases ht : t < 0
      · have HX : Hid (writtenS cs ps xr at_ va = none) := by
          show writtenS cs ps xr at_ va = none
          rw [writtenS,HPP.out,if_neg HC1.out,HT.out,if_pos ht]
        have HD : Hid (Below w.heap.size w W4) := dd;have HS : Hid _ := shelf_put (w := w) (W := W4.drew) kR4 (by omega) (bw_drew dd) (.slice none 0 0) (.slice none 0 0) (.slice none 0 0);have G9 : W4.drew.cell? ⟨1,0,none⟩ = some (.iface 304 (.pointer (some (ad 1)))) := hv4.cell 1 (by decide);have G8 := cell_lt G9;have r0 : W4.drew.cell? ⟨w.heap.size + 1 + 1,0,none⟩ = _ := at_cell kR4 0;have r1 : W4.drew.cell? ⟨w.heap.size + 1 + 1,1,none⟩ = _ := at_cell kR4 1;have r2 : W4.drew.cell? ⟨w.heap.size + 1 + 1,2,none⟩ = _ := at_cell kR4 2;have e0 : W4.drew.frozen? ⟨w.heap.size + 1 + 1,0,none⟩ = _ := at_open kR4 0;have e1 : W4.drew.frozen? ⟨w.heap.size + 1 + 1,1,none⟩ = _ := at_open kR4 1;have e2 : W4.drew.frozen? ⟨w.heap.size + 1 + 1,2,none⟩ = _ := at_open kR4 2;have r0' := at_cell kR4 0;have r1' := at_cell kR4 1;have r2' := at_cell kR4 2;have e0' := at_open kR4 0;have e1' := at_open kR4 1;have e2' := at_open kR4 2;have G9' : W4.cell? ⟨1,0,none⟩ = some (.iface 304 (.pointer (some (ad 1)))) := hv4.cell 1 (by decide);have gg := HG.out;have g1 : ¬ (1 : Nat) = w.heap.size + 1 + 1 := by omega
        have g2 : ¬ w.heap.size + 1 + 1 = (1 : Nat) := by omega
        clear kA4 kO4 owB dd hput
        go_wp2_with fail
        rw [<- HW4.out];clear HW4
        go_region_law (fail)
        all_goals
          have HT0 : Hid _ := shelf_put (w := w) (W := W4) kR4 (by omega) HD.out (.slice none 0 0) (.slice none 0 0) (.slice none 0 0);clear r0 r1 r2 e0 e1 e2 r0' r1' r2' e0' e1' e2' G9 G9' G8 kP kR4 hv4
          go_wp2_with fail
          exact bodyPost_ret (v := .tuple #[.agg #[.slice none 0 0,.slice none 0 0,.slice none 0 0],refErr ad 9]) (by first | simp [results,Tryz.results181,go_sem,at_cell HT0.out.1,refErr,varOf] | simp [results,Tryz.results181,go_sem,at_cell HS.out.1,refErr,varOf]) rfl ⟨by rw [HX.out];exact rfl,by first | exact bw_drew HT0.out.2.2 | exact HS.out.2.2⟩
      · have hpt : ∀ (v1 v2 vb : Value) (w : World) (hbase : base <= w.heap.size) (own : OwnS base w v1 v2 vb T1 T2 bks),_ := fun v1 v2 vb w hbase own => hput t v1 v2 vb T1 T2 w hbase own
        obtain ⟨D,hD⟩ : ∃ D,dropped T1 T2 p = D := ⟨_,rfl⟩
        obtain ⟨M,hM⟩ : ∃ M,mapped xr at_ t = M := ⟨_,rfl⟩
        simp only [hD,hM] at hpt
        have HX : Hid (writtenS cs ps xr at_ va = some (D.1,M.1)) := by
          show writtenS cs ps xr at_ va = some (D.1,M.1)
          rw [writtenS,HPP.out,if_neg HC1.out,HT.out,if_neg ht,hD,hM]
        clear hD hM hput;obtain ⟨⟨D1,D2⟩,D3⟩ := D;obtain ⟨M1,M2⟩ := M;simp only at hpt;have hb4 : base <= W4.heap.size := by omega
        obtain ⟨P0,P1⟩ := c2 kP;have P2 := at_cell kA4 2;have P3 := at_cell kO4 3
        go_upto_region 7 with fail
        rw [<- HW4.out];clear HW4
        go_wp2_with fail
        refine (hpt _ _ _ _ hb4 owB).mono ?_;rintro e w5 ⟨u1,u2,ub,m,rfl,ow5,b5⟩;obtain ⟨f1,g1,f2,g2,f3,g3,e1,e2,e3⟩ := ow5.forms;rw [List.length_set] at e3;subst e1 e2 e3;have kR5 := (b5.block _ (heap_lt kR4)).trans kR4;obtain ⟨r0,r1,r2⟩ := c3 kR5;obtain ⟨e0,e1,e2⟩ := o3 kR5;have HS : Hid _ := shelf_put (w := w) kR5 (by omega) (bw_call dd b5) (.slice f1 D1.length g1) (.slice f2 D2.length g2) (.slice f3 bks.length g3);have HF : Hid _ := OwnS.answer ow5 kR5 HS.out.2.1;clear kA4 kO4 kR4 kP hv4 owB dd kR5 ow5 b5 P0 P1 P2 P3
        go_wp2_with fail
        exact bodyPost_ret (v := .tuple #[.agg #[.slice f1 D1.length g1,.slice f2 D2.length g2,.slice f3 bks.length g3],.nilIface]) (by simp [results,Tryz.results181,go_sem,at_cell HS.out.1]) rfl ⟨by rw [HX.out];exact ⟨_,_,_,_,rfl,⟨HF.out.1,HF.out.2,HF.out.3⟩⟩,HS.out.2.2⟩
set_option maxHeartbeats 3200000 in
theorem changed_2 (base : Nat) (v1 v2 vb : Value) (cs ps : List Int) (bks : List Bk) (nm ot : ByteArray) (at_ va ep : Int) (w : World) (ad : Nat -> Addr) (hv : Vars w ad) (hbase : base <= w.heap.size) (inv : ShInv ⟨cs,ps,bks.map Bk.pb⟩) (ho : opOk ⟨2,nm,ot,at_,va,ep⟩ = true) (hr : refused (bks.map Bk.pb) ⟨2,nm,ot,at_,va,ep⟩ = 0) (own : OwnS base w v1 v2 vb cs ps bks) :
    Calls Tryz.prog 131 #[.agg #[v1,v2,vb],.agg #[.int .i64 2,.string nm,.string ot,.int .i64 at_,.int .i64 va,.int .i64 ep]] w fun e w' => ChPost ad base (doOp ⟨cs,ps,bks.map Bk.pb⟩ ⟨2,nm,ot,at_,va,ep⟩) e w' /\ Below w.heap.size w w' := by
  have F := ch_facts inv;obtain ⟨i,hi,hat,hop⟩ := op_in inv ho hr (fun h => by cases h);have HAT : Hid (findB bks nm = (i : Int)) := hat;have HOP : Hid _ := hop;clear hat hop;have hfit := F.fit bks[i] (List.getElem_mem hi);have hl6 := F.few;have hln := F.len;have hc1 : cs.length <= 1048576 := by have := F.c24;omega
  have HLN : Hid (cs.length = ps.length) := hln;clear hln;have hms : ∀ b ∈ bks,∃ o k cap,b.m = .slice o k cap := fun b hb => by obtain ⟨o,c,h⟩ := own_slice (own.b.maps b hb);exact ⟨o,_,c,h⟩
  have HMS : Hid _ := hms;obtain ⟨o1,k1,o2,k2,ob,kb,rfl,rfl,rfl⟩ := own.forms;obtain ⟨W0,hW0,kA,kO,kR,d0,z0⟩ := box3 w #[.slice o1 cs.length k1,.slice o2 ps.length k2,.slice ob bks.length kb] #[.int .i64 2,.string nm,.string ot,.int .i64 at_,.int .i64 va,.int .i64 ep] #[.slice none 0 0,.slice none 0 0,.slice none 0 0] 42 26 42;have HW0 : Hid (W0 = _) := hW0;have own0 := own.below d0;have hv0 := hv.below d0;have zr : w.heap.size + 1 + 1 < W0.heap.size := by omega
  have hb0 : base <= W0.heap.size := by omega
  have HF : Hid _ := F;have HINV : Hid _ := inv;clear hW0 z0 own hv hms F inv ho hr hbase
  go_enter Tryz.func131,Tryz.ntmps131
  go_wp2_with fail
  rw [<- HW0.out];clear HW0;have hfb : ∀ (v : Value) (w : World) (r : ReadsR 5 bookC w.heap.size w v bks),_ := fun v w r => implFindBook_any v bks nm w HMS.out r
  obtain ⟨fi,hfi⟩ : ∃ fi,findB bks nm = fi := ⟨_,rfl⟩
  simp only [hfi] at hfb;have HFI : Hid (findB bks nm = fi) := hfi;clear hfi;refine (hfb _ _ own0.b.reads.row).mono ?_;rintro e w1 ⟨rfl,b1⟩;have kA1 := (b1.block _ (heap_lt kA)).trans kA;have kO1 := (b1.block _ (heap_lt kO)).trans kO;have kR1 := (b1.block _ (heap_lt kR)).trans kR;have own1 := own0.below b1;have hv1 := hv0.below b1;have d1 := bw_call d0 b1;have hb1 : base <= w1.heap.size := Nat.le_trans hb0 b1.size;have hlt1 : w.heap.size + 1 + 1 < w1.heap.size := Nat.lt_of_lt_of_le zr b1.size;clear b1 kA kO kR own0 hv0 d0 hb0 zr hfb;have hfi2 := HFI.out;rw [HAT.out] at hfi2;subst hfi2;obtain ⟨p0,p1,p2⟩ := c3 kA1;have q0 := at_cell kO1 0;have q1 := at_cell kO1 1;have q2 := at_cell kO1 2;have q3 := at_cell kO1 3;have q4 := at_cell kO1 4;have q5 := at_cell kO1 5
  go_wp2_with fail
  clear p0 p1 p2 q0 q1 q2 q3 q4 q5;refine (written_any base i _ _ _ cs ps bks 2 nm ot at_ va ep _ ad hv1 hb1 hi hl6 HLN.out hc1 hfit own1).mono ?_;rintro e w2 ⟨hp,b2⟩
  cases hX : writtenS cs ps bks[i].rs at_ va with
  | none =>
    have HX : Hid (writtenS cs ps bks[i].rs at_ va = none) := hX;rw [hX] at hp;simp only [WrPost] at hp;subst hp;clear hX;have kR2 := (b2.block _ (heap_lt kR1)).trans kR1;have d2 := bw_call d1 b2;have hs := shelf_put (w := w) kR2 (by omega) d2 (.slice none 0 0) (.slice none 0 0) (.slice none 0 0);obtain ⟨r0,r1,r2⟩ := c3 kR2;obtain ⟨e0,e1,e2⟩ := o3 kR2
    obtain ⟨W3,hW3⟩ : ∃ W3 : World,W3 = ((w2.setCell ⟨w.heap.size + 1 + 1,0,none⟩ (.slice none 0 0)).setCell ⟨w.heap.size + 1 + 1,1,none⟩ (.slice none 0 0)).setCell ⟨w.heap.size + 1 + 1,2,none⟩ (.slice none 0 0) := ⟨_,rfl⟩
    rw [<- hW3] at hs;have HW3 : Hid (W3 = _) := hW3;clear hW3 b2 kA1 kO1 own1 hv1 d1 kR1
    go_upto_region 20 with fail
    rw [<- HW3.out];clear HW3 r0 r1 r2 e0 e1 e2 kR2;have HS : Hid _ := shelf_put (w := w) hs.1 (by omega) hs.2.2 (.slice none 0 0) (.slice none 0 0) (.slice none 0 0);obtain ⟨r0,r1,r2⟩ := c3 hs.1;obtain ⟨e0,e1,e2⟩ := o3 hs.1;clear hs d2
    go_wp2_with fail
    exact bodyPost_ret (v := .tuple #[.agg #[.slice none 0 0,.slice none 0 0,.slice none 0 0],.int .i64 0,refErr ad 9]) (by simp [results,Tryz.results131,go_sem,at_cell HS.out.1]) rfl ⟨by
      rw [(ch_write hi HOP.out).2 HX.out]
      exact .inr ⟨rfl,rfl⟩,HS.out.2.2⟩
  | some X =>
    have HX : Hid (writtenS cs ps bks[i].rs at_ va = some X) := hX;rw [hX] at hp;simp only [WrPost] at hp;clear hX;obtain ⟨⟨X1,X2⟩,X3⟩ := X;simp only at hp;obtain ⟨u1,u2,ub,m,rfl,ow2⟩ := hp
    obtain ⟨N,hN⟩ : ∃ N,bks.set i ⟨bks[i].nm,bks[i].sz,m,X3,bks[i].fx,bks[i].ep⟩ = N := ⟨_,rfl⟩
    have HN : Hid (bks.set i ⟨bks[i].nm,bks[i].sz,m,X3,bks[i].fx,bks[i].ep⟩ = N) := hN;rw [hN] at ow2;clear hN;obtain ⟨y1,j1,y2,j2,o6,c6,hu1,hu2,hub⟩ := ow2.forms;subst hu1 hu2 hub;have kR2 := (b2.block _ (heap_lt kR1)).trans kR1;have d2 := bw_call d1 b2;have hs := shelf_put (w := w) kR2 (by omega) d2 (.slice y1 X1.length j1) (.slice y2 X2.length j2) (.slice o6 N.length c6);have ow3 := OwnS.answer ow2 kR2 hs.2.1;obtain ⟨r0,r1,r2⟩ := c3 kR2;obtain ⟨e0,e1,e2⟩ := o3 kR2
    obtain ⟨W3,hW3⟩ : ∃ W3 : World,W3 = ((w2.setCell ⟨w.heap.size + 1 + 1,0,none⟩ (.slice y1 X1.length j1)).setCell ⟨w.heap.size + 1 + 1,1,none⟩ (.slice y2 X2.length j2)).setCell ⟨w.heap.size + 1 + 1,2,none⟩ (.slice o6 N.length c6) := ⟨_,rfl⟩
    rw [<- hW3] at hs ow3;have HW3 : Hid (W3 = _) := hW3;clear hW3 b2 kA1 kO1 own1 hv1 d1 kR1 ow2
    go_upto_region 20 with fail
    rw [<- HW3.out];clear HW3 r0 r1 r2 e0 e1 e2 kR2;have HS : Hid _ := shelf_put (w := w) hs.1 (by omega) hs.2.2 (.slice y1 X1.length j1) (.slice y2 X2.length j2) (.slice o6 N.length c6);have HG : Hid _ := OwnS.answer ow3 hs.1 HS.out.2.1;obtain ⟨r0,r1,r2⟩ := c3 hs.1;obtain ⟨e0,e1,e2⟩ := o3 hs.1;clear hs ow3 d2
    go_wp2_with fail
    exact bodyPost_ret (v := .tuple #[.agg #[.slice y1 X1.length j1,.slice y2 X2.length j2,.slice o6 N.length c6],.int .i64 0,.nilIface]) (by simp [results,Tryz.results131,go_sem,at_cell HS.out.1]) rfl ⟨by
      rw [(ch_write hi HOP.out).1 _ HX.out m,HN.out]
      exact .inl ⟨rfl,_,_,_,_,rfl,⟨HG.out.1,HG.out.2,HG.out.3⟩,rfl⟩,HS.out.2.2⟩
set_option maxHeartbeats 3200000 in
theorem changed_3 (base : Nat) (v1 v2 vb : Value) (cs ps : List Int) (bks : List Bk) (nm ot : ByteArray) (at_ va ep : Int) (w : World) (ad : Nat -> Addr) (hv : Vars w ad) (hbase : base <= w.heap.size) (inv : ShInv ⟨cs,ps,bks.map Bk.pb⟩) (ho : opOk ⟨3,nm,ot,at_,va,ep⟩ = true) (hr : refused (bks.map Bk.pb) ⟨3,nm,ot,at_,va,ep⟩ = 0) (own : OwnS base w v1 v2 vb cs ps bks) :
    Calls Tryz.prog 131 #[.agg #[v1,v2,vb],.agg #[.int .i64 3,.string nm,.string ot,.int .i64 at_,.int .i64 va,.int .i64 ep]] w fun e w' => ChPost ad base (doOp ⟨cs,ps,bks.map Bk.pb⟩ ⟨3,nm,ot,at_,va,ep⟩) e w' /\ Below w.heap.size w w' := by
  have F := ch_facts inv;obtain ⟨i,hi,hat,hop⟩ := op_in inv ho hr (fun h => by cases h);have HAT : Hid (findB bks nm = (i : Int)) := hat;have HOP : Hid _ := hop;clear hat hop;have hfit := F.fit bks[i] (List.getElem_mem hi);have hl6 := F.few;have hms : ∀ b ∈ bks,∃ o k cap,b.m = .slice o k cap := fun b hb => by obtain ⟨o,c,h⟩ := own_slice (own.b.maps b hb);exact ⟨o,_,c,h⟩
  have HMS : Hid _ := hms;obtain ⟨o1,k1,o2,k2,ob,kb,rfl,rfl,rfl⟩ := own.forms;obtain ⟨W0,hW0,kA,kO,kR,d0,z0⟩ := box3 w #[.slice o1 cs.length k1,.slice o2 ps.length k2,.slice ob bks.length kb] #[.int .i64 3,.string nm,.string ot,.int .i64 at_,.int .i64 va,.int .i64 ep] #[.slice none 0 0,.slice none 0 0,.slice none 0 0] 42 26 42;have HW0 : Hid (W0 = _) := hW0;have own0 := own.below d0;have hv0 := hv.below d0;have zr : w.heap.size + 1 + 1 < W0.heap.size := by omega
  have hb0 : base <= W0.heap.size := by omega
  have HF : Hid _ := F;have HINV : Hid _ := inv;clear hW0 z0 own hv hms F inv ho hr hbase
  go_enter Tryz.func131,Tryz.ntmps131
  go_wp2_with fail
  rw [<- HW0.out];clear HW0;have hfb : ∀ (v : Value) (w : World) (r : ReadsR 5 bookC w.heap.size w v bks),_ := fun v w r => implFindBook_any v bks nm w HMS.out r
  obtain ⟨fi,hfi⟩ : ∃ fi,findB bks nm = fi := ⟨_,rfl⟩
  simp only [hfi] at hfb;have HFI : Hid (findB bks nm = fi) := hfi;clear hfi;refine (hfb _ _ own0.b.reads.row).mono ?_;rintro e w1 ⟨rfl,b1⟩;have kA1 := (b1.block _ (heap_lt kA)).trans kA;have kO1 := (b1.block _ (heap_lt kO)).trans kO;have kR1 := (b1.block _ (heap_lt kR)).trans kR;have own1 := own0.below b1;have hv1 := hv0.below b1;have d1 := bw_call d0 b1;have hb1 : base <= w1.heap.size := Nat.le_trans hb0 b1.size;have hlt1 : w.heap.size + 1 + 1 < w1.heap.size := Nat.lt_of_lt_of_le zr b1.size;clear b1 kA kO kR own0 hv0 d0 hb0 zr hfb;have hfi2 := HFI.out;rw [HAT.out] at hfi2;subst hfi2;obtain ⟨p0,p1,p2⟩ := c3 kA1;have q0 := at_cell kO1 0;have q1 := at_cell kO1 1;have q2 := at_cell kO1 2;have q3 := at_cell kO1 3;have q4 := at_cell kO1 4;have q5 := at_cell kO1 5
  go_wp2_with fail
  clear p0 p1 p2 q0 q1 q2 q3 q4 q5;refine (putPage_any base i at_ (-1) _ _ _ cs ps bks _ hb1 hi hl6 hfit own1).mono ?_;rintro e w2 ⟨u1,u2,ub,m,rfl,ow2,b2⟩
  obtain ⟨D,hD⟩ : ∃ D,dropped cs ps (pageOf bks[i].rs at_) = D := ⟨_,rfl⟩
  have HD : Hid (dropped cs ps (pageOf bks[i].rs at_) = D) := hD;simp only [hD] at ow2;clear hD
  obtain ⟨N,hN⟩ : ∃ N,bks.set i ⟨bks[i].nm,bks[i].sz,m,(mapped bks[i].rs at_ (-1)).1,bks[i].fx,bks[i].ep⟩ = N := ⟨_,rfl⟩
  have HN : Hid (bks.set i ⟨bks[i].nm,bks[i].sz,m,(mapped bks[i].rs at_ (-1)).1,bks[i].fx,bks[i].ep⟩ = N) := hN;simp only [hN] at ow2;clear hN;obtain ⟨y1,j1,y2,j2,o6,c6,hu1,hu2,hub⟩ := ow2.forms;subst hu1 hu2 hub;have kR2 := (b2.block _ (heap_lt kR1)).trans kR1;have d2 := bw_call d1 b2;have hs := shelf_put (w := w) kR2 (by omega) d2 (.slice y1 D.1.1.length j1) (.slice y2 D.1.2.length j2) (.slice o6 N.length c6);have ow3 := OwnS.answer ow2 kR2 hs.2.1;obtain ⟨r0,r1,r2⟩ := c3 kR2;obtain ⟨e0,e1,e2⟩ := o3 kR2
  obtain ⟨W3,hW3⟩ : ∃ W3 : World,W3 = ((w2.setCell ⟨w.heap.size + 1 + 1,0,none⟩ (.slice y1 D.1.1.length j1)).setCell ⟨w.heap.size + 1 + 1,1,none⟩ (.slice y2 D.1.2.length j2)).setCell ⟨w.heap.size + 1 + 1,2,none⟩ (.slice o6 N.length c6) := ⟨_,rfl⟩
  rw [<- hW3] at hs ow3;have HW3 : Hid (W3 = _) := hW3;clear hW3 ow2 b2 kA1 kO1 own1 hv1 d1 kR1
  go_upto_region 20 with fail
  rw [<- HW3.out];clear HW3 r0 r1 r2 e0 e1 e2 kR2;have HS : Hid _ := shelf_put (w := w) hs.1 (by omega) hs.2.2 (.slice y1 D.1.1.length j1) (.slice y2 D.1.2.length j2) (.slice o6 N.length c6);have HG : Hid _ := OwnS.answer ow3 hs.1 HS.out.2.1;obtain ⟨r0,r1,r2⟩ := c3 hs.1;obtain ⟨e0,e1,e2⟩ := o3 hs.1;clear hs ow3 d2
  go_wp2_with fail
  exact bodyPost_ret (v := .tuple #[.agg #[.slice y1 D.1.1.length j1,.slice y2 D.1.2.length j2,.slice o6 N.length c6],.int .i64 0,.nilIface]) (by simp [results,Tryz.results131,go_sem,at_cell HS.out.1]) rfl ⟨by
    rw [ch_trim hi HOP.out m,HD.out,HN.out]
    exact .inl ⟨rfl,_,_,_,_,rfl,⟨HG.out.1,HG.out.2,HG.out.3⟩,rfl⟩,HS.out.2.2⟩
end Go.Proofs.YtmnhnhjefocicaaGreatDoor
