import Derived.Deep.RegionHeld3
import Derived.Deep.DeepCutAuto
import Derived.Test.YtmnhnhjefocicaaGreatDoorM01
import Derived.Test.YtmnhnhjefocicaaGreatDoorM14
import Derived.Test.YtmnhnhjefocicaaGreatDoorM35
import Derived.Test.YtmnhnhjefocicaaGreatDoorM43
import Derived.Test.YtmnhnhjefocicaaGreatDoorM44
namespace Go.Proofs.YtmnhnhjefocicaaGreatDoor
open Go.RowKit
set_option linter.unusedVariables false
set_option maxRecDepth 100000
def wrongErr (ad : Nat -> Addr) : Value := .iface 126 (.agg #[.int .i64 1,.iface 304 (.pointer (some (ad 0)))])
def TrPart (ad : Nat -> Addr) (base : Nat) (s : Sf) (o : Oq) (u1 u2 u3 : Value) (told : Int) (err : Value) (w' : World) : Prop :=
  (shelfOk s = false /\ err = wrongErr ad) \/
  (shelfOk s = true /\ (doOp s o).2.1 ≠ 0 /\ err = refErr ad (doOp s o).2.1) \/
  (shelfOk s = true /\ (doOp s o).2.1 = 0 /\ told = (doOp s o).2.2 /\ err = .nilIface /\ ∃ ms : List Bk,OwnS base w' u1 u2 u3 (doOp s o).1.cs (doOp s o).1.ps ms /\ ms.map Bk.pb = (doOp s o).1.bs)
def ChPart (ad : Nat -> Addr) (base : Nat) (X : Sf × (Int × Int)) (u1 u2 u3 : Value) (told : Int) (err : Value) (w' : World) : Prop :=
  (X.2.1 = 0 /\ told = X.2.2 /\ err = .nilIface /\ ∃ ms : List Bk,OwnS base w' u1 u2 u3 X.1.cs X.1.ps ms /\ ms.map Bk.pb = X.1.bs) \/ (X.2.1 = 9 /\ err = refErr ad 9)
theorem ChPost.parts {ad : Nat -> Addr} {base : Nat} {X : Sf × (Int × Int)} {e : Ending} {w' : World} (h : ChPost ad base X e w') : ∃ a1 n1 c1 a2 n2 c2 a3 n3 c3 told err,e = .returned (.tuple #[.agg #[.slice a1 n1 c1,.slice a2 n2 c2,.slice a3 n3 c3],.int .i64 told,err]) /\ ChPart ad base X (.slice a1 n1 c1) (.slice a2 n2 c2) (.slice a3 n3 c3) told err w' := by
  rcases h with ⟨h0,u1,u2,ub,ms,rfl,ow,hm⟩ | ⟨h9,rfl⟩
  · obtain ⟨o1,k1,o2,k2,ob,kb,rfl,rfl,rfl⟩ := ow.forms
    exact ⟨_,_,_,_,_,_,_,_,_,_,_,rfl,.inl ⟨h0,rfl,rfl,ms,ow,hm⟩⟩
  · exact ⟨_,_,_,_,_,_,_,_,_,_,_,rfl,.inr ⟨h9,rfl⟩⟩
theorem ChPart.own {ad : Nat -> Addr} {base c : Nat} {X : Sf × (Int × Int)} {u1 u2 u3 : Value} {told : Int} {err : Value} {W W' : World} {xs : Array Value} (h : ChPart ad base X u1 u2 u3 told err W) (k : W.heap[c]? = some (.cells xs 42 (0,0))) (u : Upto c W W') : ChPart ad base X u1 u2 u3 told err W' := by
  rcases h with ⟨h0,h1,h2,ms,ow,hm⟩ | h
  · exact .inl ⟨h0,h1,h2,ms,OwnS.answer ow k u,hm⟩
  · exact .inr h
theorem ChPart.mono {ad : Nat -> Addr} {base base' : Nat} {X : Sf × (Int × Int)} {u1 u2 u3 : Value} {told : Int} {err : Value} {W : World} (h : ChPart ad base X u1 u2 u3 told err W) (hb : base' <= base) : ChPart ad base' X u1 u2 u3 told err W := by
  rcases h with ⟨h0,h1,h2,ms,ow,hm⟩ | h
  · exact .inl ⟨h0,h1,h2,ms,ow.mono hb,hm⟩
  · exact .inr h
theorem doOp_ref {s : Sf} {o : Oq} (h : refCode s.bs o ≠ 0) : doOp s o = (s,(refCode s.bs o,0)) := by
  unfold refCode at h ⊢;cases hok : opOk o
  · rw [doOp,if_pos hok,if_pos rfl]
  · rw [hok,if_neg (by decide)] at h
    rw [doOp,if_neg (by rw [hok];decide),if_pos h,if_neg (by decide)]
theorem ref_zero {bs : List Pb} {o : Oq} (h : refCode bs o = 0) : opOk o = true /\ refused bs o = 0 := by
  unfold refCode at h;cases hok : opOk o
  · rw [hok,if_pos rfl] at h;cases h
  · rw [hok,if_neg (by decide)] at h;exact ⟨rfl,h⟩
set_option maxHeartbeats 6400000 in
theorem tried_any (v1 v2 vb : Value) (cs ps : List Int) (bks : List Bk) (k : Int) (nm ot : ByteArray) (at_ va ep : Int) (w : World) (ad : Nat -> Addr) (hv : VarsS w ad) (hnb : ∀ b ∈ bks,b.nm.size <= maxLen) (hf : ∀ b ∈ bks,FitRuns b.rs) (hn : nm.size <= maxLen) (hot : ot.size <= maxLen) (fk : I64 k) (fa : I64 at_) (fv : I64 va) (fe : I64 ep) (r : RS w.heap.size w v1 v2 vb cs ps bks) :
    Calls Tryz.prog 73 #[.agg #[v1,v2,vb],.agg #[.int .i64 k,.string nm,.string ot,.int .i64 at_,.int .i64 va,.int .i64 ep]] w fun e w' => (∃ a1 n1 c1 a2 n2 c2 a3 n3 c3 told err,e = .returned (.tuple #[.agg #[.slice a1 n1 c1,.slice a2 n2 c2,.slice a3 n3 c3],.int .i64 told,err]) /\ TrPart ad w.heap.size ⟨cs,ps,bks.map Bk.pb⟩ ⟨k,nm,ot,at_,va,ep⟩ (.slice a1 n1 c1) (.slice a2 n2 c2) (.slice a3 n3 c3) told err w') /\ Below w.heap.size w w' := by
  obtain ⟨o1,k1,o2,k2,ob,kb,rfl,rfl,rfl⟩ := r.forms;obtain ⟨W0,hW0,kA,kO,kR,d0,z0⟩ := box3 w #[.slice o1 cs.length k1,.slice o2 ps.length k2,.slice ob bks.length kb] #[.int .i64 k,.string nm,.string ot,.int .i64 at_,.int .i64 va,.int .i64 ep] #[.slice none 0 0,.slice none 0 0,.slice none 0 0] 42 26 42;have HW0 : Hid (W0 = _) := hW0;have r0 := (r.below d0).mono d0.size;have hv0 := hv.below d0;have zr : w.heap.size + 1 + 1 < W0.heap.size := by omega
  have hgl : 0 < w.heap.size := cell_lt hv.ws;have HNB : Hid _ := hnb;have HFF : Hid _ := hf;clear hW0 z0 r hv hnb hf;have p0 := at_cell kA 0;have p1 := at_cell kA 1;have p2 := at_cell kA 2;have hso : ∀ (v1 v2 vb : Value) (w : World) (r : RS w.heap.size w v1 v2 vb cs ps bks),_ := fun v1 v2 vb w r => implShelfOk_any v1 v2 vb cs ps bks w HNB.out HFF.out r.p.c r.p.p r.b
  obtain ⟨B,hB⟩ : ∃ B,shelfOk ⟨cs,ps,bks.map Bk.pb⟩ = B := ⟨_,rfl⟩
  simp only [hB] at hso;have HSB : Hid (shelfOk ⟨cs,ps,bks.map Bk.pb⟩ = B) := hB;clear hB
  go_enter Tryz.func73,Tryz.ntmps73
  go_wp2_with fail
  rw [<- HW0.out];clear HW0;refine (hso _ _ _ _ r0).mono ?_;rintro e w1 ⟨rfl,b1⟩;have kA1 := (b1.block _ (heap_lt kA)).trans kA;have kO1 := (b1.block _ (heap_lt kO)).trans kO;have kR1 := (b1.block _ (heap_lt kR)).trans kR;have r1 := (r0.below b1).mono b1.size;have hv1 := hv0.below b1;have d1 := bw_call d0 b1;have hl1 : w.heap.size + 1 + 1 < w1.heap.size := Nat.lt_of_lt_of_le zr b1.size;clear b1 kA kO kR r0 hv0 d0 zr hso p0 p1 p2;cases B
  · have HD : Hid (Below w.heap.size w w1) := d1
    have HS : Hid _ := shelf_put (w := w) (W := w1.drew) kR1 (by omega) (bw_drew d1) (.slice none 0 0) (.slice none 0 0) (.slice none 0 0);have G9 : w1.drew.cell? ⟨0,0,none⟩ = some (.iface 304 (.pointer (some (ad 0)))) := hv1.ws;have q0 : w1.drew.cell? ⟨w.heap.size + 1 + 1,0,none⟩ = _ := at_cell kR1 0;have q1 : w1.drew.cell? ⟨w.heap.size + 1 + 1,1,none⟩ = _ := at_cell kR1 1;have q2 : w1.drew.cell? ⟨w.heap.size + 1 + 1,2,none⟩ = _ := at_cell kR1 2;have e0 : w1.drew.frozen? ⟨w.heap.size + 1 + 1,0,none⟩ = _ := at_open kR1 0;have e1 : w1.drew.frozen? ⟨w.heap.size + 1 + 1,1,none⟩ = _ := at_open kR1 1;have e2 : w1.drew.frozen? ⟨w.heap.size + 1 + 1,2,none⟩ = _ := at_open kR1 2;have q0' := at_cell kR1 0;have q1' := at_cell kR1 1;have q2' := at_cell kR1 2;have e0' := at_open kR1 0;have e1' := at_open kR1 1;have e2' := at_open kR1 2;have G9' : w1.cell? ⟨0,0,none⟩ = some (.iface 304 (.pointer (some (ad 0)))) := hv1.ws;have g1 : ¬ (0 : Nat) = w.heap.size + 1 + 1 := by omega
    have g2 : ¬ w.heap.size + 1 + 1 = (0 : Nat) := by omega
    clear kA1 kO1 r1 hv1 d1
    go_wp2_with fail
    go_region_law (fail)
    all_goals
      have HT0 : Hid _ := shelf_put (w := w) (W := w1) kR1 (by omega) HD.out (.slice none 0 0) (.slice none 0 0) (.slice none 0 0);clear q0 q1 q2 e0 e1 e2 q0' q1' q2' e0' e1' e2' G9 G9' kR1
      go_wp2_with fail
      exact bodyPost_ret (v := .tuple #[.agg #[.slice none 0 0,.slice none 0 0,.slice none 0 0],.int .i64 0,wrongErr ad]) (by first | simp [results,Tryz.results73,go_sem,at_cell HT0.out.1,wrongErr] | simp [results,Tryz.results73,go_sem,at_cell HS.out.1,wrongErr]) rfl ⟨⟨_,_,_,_,_,_,_,_,_,_,_,rfl,.inl ⟨HSB.out,rfl⟩⟩,by first | exact bw_drew HT0.out.2.2 | exact HS.out.2.2⟩
  · have inv := (shelfOk_iff _).1 HSB.out
    have F := ch_facts inv;have HINV : Hid _ := inv;have hl6 := F.few;have HEP : Hid (∀ b ∈ bks,b.ep <= 1000) := fun b hb => (F.ep b hb).2
    have HMS : Hid (∀ b ∈ bks,∃ o k cap,b.m = .slice o k cap) := fun b hb => by obtain ⟨o,c,h,-⟩ := r1.b.maps b hb;exact ⟨o,_,c,h⟩
    have hrf : ∀ (vb : Value) (w : World) (hv : Vars w ad) (r : ReadsR 5 bookC w.heap.size w vb bks),_ := fun vb w hv r => refusedBy_any k fk vb bks nm ot at_ va ep w ad hv hn hot fa fv fe hl6 HEP.out HMS.out r
    obtain ⟨C,hC⟩ : ∃ C,refCode (bks.map Bk.pb) ⟨k,nm,ot,at_,va,ep⟩ = C := ⟨_,rfl⟩
    simp only [hC] at hrf;have HC : Hid (refCode (bks.map Bk.pb) ⟨k,nm,ot,at_,va,ep⟩ = C) := hC;clear hC;have p2 := at_cell kA1 2;obtain ⟨q0,q1,q2,q3,q4,q5⟩ := c6 kO1;have hc1 : cs.length <= 1048576 := by have := F.c24;omega
    have hp1 : ps.length <= 1048576 := by have := F.c24;have := F.len;omega
    have HNL : Hid (∀ b ∈ bks,b.nm.size <= 1099511627776) := fun b hb => by have := F.nm b hb;omega
    have HRL : Hid (∀ b ∈ bks,b.rs.length <= 1048576) := fun b hb => by have := F.rs b hb;omega
    clear inv F
    go_wp2_with fail
    clear p2 q0 q1 q2 q3 q4 q5;refine (hrf _ _ hv1.v r1.b.row).mono ?_;rintro e w2 ⟨rfl,b2⟩;have kA2 := (b2.block _ (heap_lt kA1)).trans kA1;have kO2 := (b2.block _ (heap_lt kO1)).trans kO1;have kR2 := (b2.block _ (heap_lt kR1)).trans kR1;have r2 := (r1.below b2).mono b2.size;have hv2 := hv1.below b2;have d2 := bw_call d1 b2;have hl2 : w.heap.size + 1 + 1 < w2.heap.size := Nat.lt_of_lt_of_le hl1 b2.size;clear b2 kA1 kO1 kR1 r1 hv1 d1 hl1 hrf;by_cases h0 : C = 0
    · obtain ⟨hok,hre⟩ := ref_zero (HC.out.trans h0)
      have HOK : Hid _ := hok;have HRE : Hid _ := hre;subst h0;rw [show refErr ad 0 = .nilIface from rfl];have hsm : ∀ (v1 v2 vb : Value) (w : World) (r : RS w.heap.size w v1 v2 vb cs ps bks),_ := fun v1 v2 vb w r => sameShelf_any v1 v2 vb cs ps bks w hc1 hp1 hl6 HNL.out HRL.out r
      go_wp2_with fail
      have HKeep : ∀ X,Below w2.heap.size w2 X -> (X.cell? ⟨w.heap.size,0,none⟩ = some (.slice o1 cs.length k1) /\ X.cell? ⟨w.heap.size,1,none⟩ = some (.slice o2 ps.length k2) /\ X.cell? ⟨w.heap.size,2,none⟩ = some (.slice ob bks.length kb) /\ X.cell? ⟨w.heap.size + 1,0,none⟩ = some (.int .i64 k) /\ X.cell? ⟨w.heap.size + 1,1,none⟩ = some (.string nm) /\ X.cell? ⟨w.heap.size + 1,2,none⟩ = some (.string ot) /\ X.cell? ⟨w.heap.size + 1,3,none⟩ = some (.int .i64 at_) /\ X.cell? ⟨w.heap.size + 1,4,none⟩ = some (.int .i64 va) /\ X.cell? ⟨w.heap.size + 1,5,none⟩ = some (.int .i64 ep)) := fun X hb => by
        have x1 := (hb.block _ (heap_lt kA2)).trans kA2;have x2 := (hb.block _ (heap_lt kO2)).trans kO2;exact ⟨at_cell x1 0,at_cell x1 1,at_cell x1 2,at_cell x2 0,at_cell x2 1,at_cell x2 2,at_cell x2 3,at_cell x2 4,at_cell x2 5⟩
      have HKeep2 : ∀ (X Y : World),Below w2.heap.size w2 X -> Upto (w.heap.size + 1 + 1) X Y -> (Y.cell? ⟨w.heap.size,0,none⟩ = some (.slice o1 cs.length k1) /\ Y.cell? ⟨w.heap.size,1,none⟩ = some (.slice o2 ps.length k2) /\ Y.cell? ⟨w.heap.size,2,none⟩ = some (.slice ob bks.length kb) /\ Y.cell? ⟨w.heap.size + 1,0,none⟩ = some (.int .i64 k) /\ Y.cell? ⟨w.heap.size + 1,1,none⟩ = some (.string nm) /\ Y.cell? ⟨w.heap.size + 1,2,none⟩ = some (.string ot) /\ Y.cell? ⟨w.heap.size + 1,3,none⟩ = some (.int .i64 at_) /\ Y.cell? ⟨w.heap.size + 1,4,none⟩ = some (.int .i64 va) /\ Y.cell? ⟨w.heap.size + 1,5,none⟩ = some (.int .i64 ep)) := fun X Y hb u => by
        have x1 := (hb.block _ (heap_lt kA2)).trans kA2;have x2 := (hb.block _ (heap_lt kO2)).trans kO2;have x1 := (u.block _ (heap_lt x1) (by omega)).trans x1;have x2 := (u.block _ (heap_lt x2) (by omega)).trans x2;exact ⟨at_cell x1 0,at_cell x1 1,at_cell x1 2,at_cell x2 0,at_cell x2 1,at_cell x2 2,at_cell x2 3,at_cell x2 4,at_cell x2 5⟩
      have UP : ∀ (X : World) (z0 z1 z2 : Value),Upto (w.heap.size + 1 + 1) X (((X.setCell ⟨w.heap.size + 1 + 1,0,none⟩ z0).setCell ⟨w.heap.size + 1 + 1,1,none⟩ z1).setCell ⟨w.heap.size + 1 + 1,2,none⟩ z2) := fun X z0 z1 z2 => (((Upto.refl _ _).setCell ⟨_,0,none⟩ (.inl rfl) _).setCell ⟨_,1,none⟩ (.inl rfl) _).setCell ⟨_,2,none⟩ (.inl rfl) _
      have A1 : Below w2.heap.size w2 w2.drew := bw_drew (Below.refl _ _);have rd : RS w2.drew.heap.size w2.drew _ _ _ cs ps bks := r2.below A1
      go_region_held3 (fun w' => w'.cell? ⟨w.heap.size,0,none⟩ = some (.slice o1 cs.length k1) /\ w'.cell? ⟨w.heap.size,1,none⟩ = some (.slice o2 ps.length k2) /\ w'.cell? ⟨w.heap.size,2,none⟩ = some (.slice ob bks.length kb) /\ w'.cell? ⟨w.heap.size + 1,0,none⟩ = some (.int .i64 k) /\ w'.cell? ⟨w.heap.size + 1,1,none⟩ = some (.string nm) /\ w'.cell? ⟨w.heap.size + 1,2,none⟩ = some (.string ot) /\ w'.cell? ⟨w.heap.size + 1,3,none⟩ = some (.int .i64 at_) /\ w'.cell? ⟨w.heap.size + 1,4,none⟩ = some (.int .i64 va) /\ w'.cell? ⟨w.heap.size + 1,5,none⟩ = some (.int .i64 ep))
        ((first | exact HKeep2 _ _ A8 (UP _ _ _ _) | (refine HKeep _ ?_;repeat (first | exact Below.refl _ _ | exact A8 | exact A7 | refine bw_drew ?_))))
        ((first
          | (go_at_call 75;refine (hsm _ _ _ _ rd).mono ?_;rintro e w7 ⟨x1,x2,xb,ms,rfl,hms,ow7,b7⟩;have A7 : Below w2.heap.size w2 w7 := bw_call A1 b7;obtain ⟨y1,j1,y2,j2,yb,jb,e1,e2,e3⟩ := ow7.forms;subst e1 e2 e3;have hv7 := (hv2.below A1).below b7;have HM7 : Hid (ms.map Bk.pb = bks.map Bk.pb) := hms;clear hms;have sz7 := b7.size;skip)
          | (go_at_call 131;refine (changed_any k _ _ _ _ cs ps ms nm ot at_ va ep _ ad hv7.v sz7 (by rw [HM7.out];exact HINV.out) HOK.out (by rw [HM7.out];exact HRE.out) ow7).mono ?_;rintro e w8 ⟨hp,b8⟩;rw [HM7.out] at hp;obtain ⟨a1,n1,c1,a2,n2,c2,a3,n3,c3,told,err,rfl,hp8⟩ := hp.parts;have A8 : Below w2.heap.size w2 w8 := bw_call A7 b8;have kR8 := (A8.block _ (heap_lt kR2)).trans kR2;have t0 := at_cell kR8 0;have t1 := at_cell kR8 1;have t2 := at_cell kR8 2;have e0 := at_open kR8 0;have e1 := at_open kR8 1;have e2 := at_open kR8 2;have HP8 : Hid (ChPart ad w2.drew.heap.size (doOp ⟨cs,ps,bks.map Bk.pb⟩ ⟨k,nm,ot,at_,va,ep⟩) (.slice a1 n1 c1) (.slice a2 n2 c2) (.slice a3 n3 c3) told err w8) := hp8;clear hp hp8;skip)))
      all_goals
        have HS : Hid _ := shelf_put (w := w) kR8 (by omega) (bw_call d2 A8) (.slice a1 n1 c1) (.slice a2 n2 c2) (.slice a3 n3 c3);have HG : Hid (ChPart ad w.heap.size (doOp ⟨cs,ps,bks.map Bk.pb⟩ ⟨k,nm,ot,at_,va,ep⟩) (.slice a1 n1 c1) (.slice a2 n2 c2) (.slice a3 n3 c3) told err _) := (HP8.out.own kR8 HS.out.2.1).mono (show w.heap.size <= w2.heap.size by omega);clear HP8 kR8 A8 b8 ow7 b7 A7 hv7 rd A1 HKeep HKeep2 UP kA2 kO2 kR2 r2 hv2 d2 hsm
        go_wp2_with fail
        exact bodyPost_ret (v := .tuple #[.agg #[.slice a1 n1 c1,.slice a2 n2 c2,.slice a3 n3 c3],.int .i64 told,err]) (by simp [results,Tryz.results73,go_sem,at_cell HS.out.1]) rfl ⟨⟨_,_,_,_,_,_,_,_,_,_,_,rfl,by
          rcases HG.out with ⟨h0,h1,h2,ms',ow,hm⟩ | ⟨h9,he⟩
          · exact .inr (.inr ⟨HSB.out,h0,h1,h2,ms',ow,hm⟩)
          · exact .inr (.inl ⟨HSB.out,by rw [h9];decide,by rw [h9];exact he⟩)⟩,HS.out.2.2⟩
    · have HDO : Hid (doOp ⟨cs,ps,bks.map Bk.pb⟩ ⟨k,nm,ot,at_,va,ep⟩ = (⟨cs,ps,bks.map Bk.pb⟩,(C,0))) := by
        have h := doOp_ref (s := ⟨cs,ps,bks.map Bk.pb⟩) (o := ⟨k,nm,ot,at_,va,ep⟩) (by show refCode (bks.map Bk.pb) _ ≠ 0;rw [HC.out];exact h0);rw [Hid,h]
        show (_,(refCode (bks.map Bk.pb) _,0)) = _
        rw [HC.out]
      have HC0 : Hid (C ≠ 0) := h0;have HR : Hid (refErr ad C = .iface 126 (.agg #[.int .i64 C,.iface 304 (.pointer (some (ad (varOf C))))])) := by rw [Hid,refErr,if_neg h0]
      rw [HR.out];have HS : Hid _ := shelf_put (w := w) kR2 (by omega) d2 (.slice none 0 0) (.slice none 0 0) (.slice none 0 0);have t0 := at_cell kR2 0;have t1 := at_cell kR2 1;have t2 := at_cell kR2 2;obtain ⟨e0,e1,e2⟩ := o3 kR2;clear kA2 kO2 kR2 r2 hv2 d2 h0
      go_wp2_with fail
      exact bodyPost_ret (v := .tuple #[.agg #[.slice none 0 0,.slice none 0 0,.slice none 0 0],.int .i64 0,.iface 126 (.agg #[.int .i64 C,.iface 304 (.pointer (some (ad (varOf C))))])]) (by simp [results,Tryz.results73,go_sem,at_cell HS.out.1]) rfl ⟨⟨_,_,_,_,_,_,_,_,_,_,_,rfl,.inr (.inl ⟨HSB.out,by rw [HDO.out];exact HC0.out,by rw [HDO.out];exact HR.out.symm⟩)⟩,HS.out.2.2⟩
theorem varOf_mem {c : Int} (h1 : 1 <= c) (h9 : c <= 9) : varOf c ∈ errVars := by
  have h : c = 1 \/ c = 2 \/ c = 3 \/ c = 4 \/ c = 5 \/ c = 6 \/ c = 7 \/ c = 8 \/ c = 9 := by omega
  rcases h with rfl | rfl | rfl | rfl | rfl | rfl | rfl | rfl | rfl <;> decide
theorem refused_range (bs : List Pb) (o : Oq) : 0 <= refused bs o /\ refused bs o <= 8 := by
  unfold refused
  repeat (first | omega | (split <;> try omega))
theorem code_range (s : Sf) (o : Oq) : 0 <= (doOp s o).2.1 /\ (doOp s o).2.1 <= 9 := by
  have hr := refused_range s.bs o;unfold doOp
  split
  · show (0 : Int) <= 1 /\ (1 : Int) <= 9
    omega
  split
  · show 0 <= refused s.bs o /\ refused s.bs o <= 9
    omega
  split
  · show (0 : Int) <= 0 /\ (0 : Int) <= 9
    omega
  split
  · show (0 : Int) <= 0 /\ (0 : Int) <= 9
    omega
  split
  · show (0 : Int) <= 0 /\ (0 : Int) <= 9
    omega
  · rcases kind_code s o (findP s.bs o.nm).toNat (bookAt s.bs (findP s.bs o.nm)) (if o.at_ < 16 then (pages (bookAt s.bs (findP s.bs o.nm)).rs).getD o.at_.toNat 0 else -1) with h | h <;> omega
set_option maxHeartbeats 6400000 in
theorem implDid_any (v1 v2 vb : Value) (cs ps : List Int) (bks : List Bk) (k : Int) (nm ot : ByteArray) (at_ va ep : Int) (w : World) (ad : Nat -> Addr) (hv : VarsS w ad) (hnb : ∀ b ∈ bks,b.nm.size <= maxLen) (hf : ∀ b ∈ bks,FitRuns b.rs) (hn : nm.size <= maxLen) (hot : ot.size <= maxLen) (fk : I64 k) (fa : I64 at_) (fv : I64 va) (fe : I64 ep) (r : RS w.heap.size w v1 v2 vb cs ps bks) :
    Calls Tryz.prog 29 #[.agg #[v1,v2,vb],.agg #[.int .i64 k,.string nm,.string ot,.int .i64 at_,.int .i64 va,.int .i64 ep]] w fun e w' => ∃ (u1 u2 ub : Value) (ms : List Bk),e = .returned (.tuple #[.agg #[u1,u2,ub],.agg #[.int .i64 (didOp ⟨cs,ps,bks.map Bk.pb⟩ ⟨k,nm,ot,at_,va,ep⟩).2.1,.int .i64 (didOp ⟨cs,ps,bks.map Bk.pb⟩ ⟨k,nm,ot,at_,va,ep⟩).2.2]]) /\ OwnS w.heap.size w' u1 u2 ub (didOp ⟨cs,ps,bks.map Bk.pb⟩ ⟨k,nm,ot,at_,va,ep⟩).1.cs (didOp ⟨cs,ps,bks.map Bk.pb⟩ ⟨k,nm,ot,at_,va,ep⟩).1.ps ms /\ ms.map Bk.pb = (didOp ⟨cs,ps,bks.map Bk.pb⟩ ⟨k,nm,ot,at_,va,ep⟩).1.bs /\ Below w.heap.size w w' := by
  obtain ⟨o1,k1,o2,k2,ob,kb,rfl,rfl,rfl⟩ := r.forms;obtain ⟨Wa,hWa,ka,kO,da,za⟩ := box2 w #[.slice o1 cs.length k1,.slice o2 ps.length k2,.slice ob bks.length kb] #[.int .i64 k,.string nm,.string ot,.int .i64 at_,.int .i64 va,.int .i64 ep] 42 26;obtain ⟨W0,hW0,kc,kd,d0,z0⟩ := box2 Wa #[.slice none 0 0,.slice none 0 0,.slice none 0 0] #[.int .i64 0,.int .i64 0] 42 30;rw [za] at kc kd;rw [hWa] at hW0;have HW0 : Hid (W0 = _) := hW0;replace ka := (d0.block _ (heap_lt ka)).trans ka;replace kO := (d0.block _ (heap_lt kO)).trans kO;replace d0 := bw_call da d0;have r0 := (r.below d0).mono d0.size;have hv0 := hv.below d0;have zr : w.heap.size + 1 + 1 + 1 < W0.heap.size := by omega
  have HNB : Hid _ := hnb;have HFF : Hid _ := hf;clear hW0 hWa za z0 da r hv hnb hf;have n1 : ¬ w.heap.size + 1 + 1 = w.heap.size + 1 + 1 + 1 := by omega
  have n2 : ¬ w.heap.size + 1 + 1 + 1 = w.heap.size + 1 + 1 := by omega
  have p0 := at_cell ka 0;have p1 := at_cell ka 1;have p2 := at_cell ka 2;obtain ⟨q0,q1,q2,q3,q4,q5⟩ := c6 kO
  obtain ⟨X,hX⟩ : ∃ X,didOp ⟨cs,ps,bks.map Bk.pb⟩ ⟨k,nm,ot,at_,va,ep⟩ = X := ⟨_,rfl⟩
  have HX : Hid (didOp ⟨cs,ps,bks.map Bk.pb⟩ ⟨k,nm,ot,at_,va,ep⟩ = X) := hX;rw [hX];clear hX
  go_enter Tryz.func29,Tryz.ntmps29
  go_wp2_with fail
  rw [<- HW0.out];clear HW0 p0 p1 p2 q0 q1 q2 q3 q4 q5;refine (tried_any _ _ _ cs ps bks k nm ot at_ va ep _ ad hv0 HNB.out HFF.out hn hot fk fa fv fe r0).mono ?_;rintro e w1 ⟨⟨a1,m1,c1,a2,m2,c2,a3,m3,c3,told,err,rfl,hp⟩,b1⟩;obtain ⟨W1,hW1,kN,d1,z1⟩ := box1 w1 #[.slice a1 m1 c1,.slice a2 m2 c2,.slice a3 m3 c3] 42;have HW1 : Hid (W1 = _) := hW1;have b01 := bw_call b1 d1;replace ka := (b01.block _ (heap_lt ka)).trans ka;replace kc := (b01.block _ (heap_lt kc)).trans kc;replace kd := (b01.block _ (heap_lt kd)).trans kd;have r1 := (r0.below b01).mono b01.size;have hv1 := hv0.below b01;have dd := bw_call d0 b01;have s1 := b1.size;have s01 := b01.size;have HP : Hid (TrPart ad W0.heap.size ⟨cs,ps,bks.map Bk.pb⟩ ⟨k,nm,ot,at_,va,ep⟩ (.slice a1 m1 c1) (.slice a2 m2 c2) (.slice a3 m3 c3) told err w1) := hp;clear hW1 z1 hp b01 r0 hv0 d0 kO
  rcases HP.out with ⟨hsb,herr⟩ | ⟨hsb,hne,herr⟩ | ⟨hsb,h0,htold,herr,ms,ow,hm⟩
  · -- the shelf is wrong
    have HXV : Hid (X = (⟨[],[],[]⟩,(1,0))) := HX.out.symm.trans (didOp_no hsb);subst herr;have HWS : Hid _ := hv1.ws;have gws := hv1.ws;unfold wrongErr
    go_upto_region 4 with fail
    rw [<- HW1.out];clear HW1
    go_wp2_with fail
    clear gws;refine (is_ref_same 1 (ad 0) _).mono ?_;rintro e w2 ⟨rfl,b2⟩;have kc2 := (b2.block _ (heap_lt kc)).trans kc;have kd2 := (b2.block _ (heap_lt kd)).trans kd;have hv2 := hv1.below b2;have d2 := bw_call dd b2;clear b2 kc kd ka hv1 dd kN r1
    go_wp2_with fail
    refine (codeOf_any 1 0 _ ad hv2.v).mono ?_;rintro e w3 ⟨rfl,b3⟩;have kc3 := (b3.block _ (heap_lt kc2)).trans kc2;have kd3 := (b3.block _ (heap_lt kd2)).trans kd2;have d3 := bw_call d2 b3;have HE : Hid _ := did_end (w := w) kc3 kd3 n1 (by omega) d3 (.slice none 0 0) (.slice none 0 0) (.slice none 0 0) (.int .i64 1) (.int .i64 0);have t0 := at_cell kc3 0;have t1 := at_cell kc3 1;have t2 := at_cell kc3 2;have t3 := at_cell kd3 0;have t4 := at_cell kd3 1;obtain ⟨f0,f1,f2⟩ := o3 kc3;have f3 := at_open kd3 0;have f4 := at_open kd3 1;clear b3 kc2 kd2 kc3 kd3 hv2 d2 d3
    go_wp2_with fail
    exact bodyPost_ret (v := .tuple #[.agg #[.slice none 0 0,.slice none 0 0,.slice none 0 0],.agg #[.int .i64 1,.int .i64 0]]) (by simp [results,Tryz.results29,go_sem,at_cell HE.out.1,at_cell HE.out.2.1]) rfl ⟨_,_,_,[],by rw [HXV.out],by rw [HXV.out];exact ⟨⟨World.ownsRow_nil _ _ _ _,World.ownsRow_nil _ _ _ _,fun g h => by cases h⟩,⟨World.ownsRow_nil _ _ _ _,fun b hb => by cases hb⟩,List.Pairwise.nil⟩,by rw [HXV.out];rfl,HE.out.2.2⟩
  · -- the op is refused
    have inv := (shelfOk_iff _).1 hsb;have F := ch_facts inv;have hdo := do_refused ⟨cs,ps,bks.map Bk.pb⟩ ⟨k,nm,ot,at_,va,ep⟩ hne;have hcr := code_range ⟨cs,ps,bks.map Bk.pb⟩ ⟨k,nm,ot,at_,va,ep⟩;have hxd := HX.out.symm.trans (didOp_yes hsb)
    obtain ⟨C,hC⟩ : ∃ C,(doOp ⟨cs,ps,bks.map Bk.pb⟩ ⟨k,nm,ot,at_,va,ep⟩).2.1 = C := ⟨_,rfl⟩
    rw [hC] at hne hcr herr
    have HXV : Hid (X.1 = ⟨cs,ps,bks.map Bk.pb⟩ /\ X.2.1 = C /\ X.2.2 = 0) := by
      rw [hxd];exact ⟨hdo.1,hC,hdo.2⟩
    have hmem := varOf_mem (c := C) (by omega) hcr.2;have HREF : Hid (refErr ad C = .iface 126 (.agg #[.int .i64 C,.iface 304 (.pointer (some (ad (varOf C))))])) := by rw [Hid,refErr,if_neg hne]
    rw [HREF.out] at herr;subst herr;have hnv := hv1.ne (varOf C) hmem;obtain ⟨ca,ta,hba⟩ := hv1.v.blk (varOf C) hmem;obtain ⟨cb,tb,hbb⟩ := hv1.wb;have gws := hv1.ws;have hc1 : cs.length <= 1048576 := by have := F.c24;omega
    have hp1 : ps.length <= 1048576 := by have := F.c24;have := F.len;omega
    have hl6 := F.few;have HNL : Hid (∀ b ∈ bks,b.nm.size <= 1099511627776) := fun b hb => by have := F.nm b hb;omega
    have HRL : Hid (∀ b ∈ bks,b.rs.length <= 1048576) := fun b hb => by have := F.rs b hb;omega
    clear inv F hdo hxd hC hcr hmem hne
    go_upto_region 4 with fail
    rw [<- HW1.out];clear HW1
    go_wp2_with fail
    clear gws;refine (is_ref_other C _ _ ca cb ta tb _ hnv hba hbb).mono ?_;rintro e w2 ⟨rfl,b2⟩;have ka2 := (b2.block _ (heap_lt ka)).trans ka;have kc2 := (b2.block _ (heap_lt kc)).trans kc;have kd2 := (b2.block _ (heap_lt kd)).trans kd;have hv2 := hv1.below b2;have r2 := (r1.below b2).mono b2.size;have d2 := bw_call dd b2;have s2 := b2.size;clear b2 kc kd ka hv1 dd kN r1 hba hbb hnv;have p0 := at_cell ka2 0;have p1 := at_cell ka2 1;have p2 := at_cell ka2 2
    go_wp2_with fail
    clear p0 p1 p2;refine (sameShelf_any _ _ _ cs ps bks _ hc1 hp1 hl6 HNL.out HRL.out r2).mono ?_;rintro e w3 ⟨u1,u2,ub,ms,rfl,hms,ow3,b3⟩;obtain ⟨y1,j1,y2,j2,yb,jb,e1,e2,e3⟩ := ow3.forms;subst e1 e2 e3;have HMS3 : Hid (ms.map Bk.pb = bks.map Bk.pb) := hms;have kc3 := (b3.block _ (heap_lt kc2)).trans kc2;have kd3 := (b3.block _ (heap_lt kd2)).trans kd2;have hv3 := hv2.below b3;have d3 := bw_call d2 b3;clear b3 kc2 kd2 ka2 hv2 d2 r2 hms
    go_wp2_with fail
    refine (codeOf_any C (varOf C) _ ad hv3.v).mono ?_;rintro e w4 ⟨rfl,b4⟩;have kc4 := (b4.block _ (heap_lt kc3)).trans kc3;have kd4 := (b4.block _ (heap_lt kd3)).trans kd3;have ow4 := ow3.below b4;have d4 := bw_call d3 b4;have HE : Hid _ := did_end (w := w) kc4 kd4 n1 (by omega) d4 (.slice y1 cs.length j1) (.slice y2 ps.length j2) (.slice yb ms.length jb) (.int .i64 C) (.int .i64 0)
    have HO : Hid (OwnS w.heap.size (((((w4.setCell ⟨w.heap.size + 1 + 1,0,none⟩ (.slice y1 cs.length j1)).setCell ⟨w.heap.size + 1 + 1,1,none⟩ (.slice y2 ps.length j2)).setCell ⟨w.heap.size + 1 + 1,2,none⟩ (.slice yb ms.length jb)).setCell ⟨w.heap.size + 1 + 1 + 1,0,none⟩ (.int .i64 C)).setCell ⟨w.heap.size + 1 + 1 + 1,1,none⟩ (.int .i64 0)) (.slice y1 cs.length j1) (.slice y2 ps.length j2) (.slice yb ms.length jb) cs ps ms) := by
      refine OwnS.mono (OwnS.upto (c := w.heap.size + 1 + 1 + 1) (OwnS.upto (c := w.heap.size + 1 + 1) ow4 ((((Upto.refl _ _).setCell ⟨w.heap.size + 1 + 1,0,none⟩ (.inl rfl) _).setCell ⟨w.heap.size + 1 + 1,1,none⟩ (.inl rfl) _).setCell ⟨w.heap.size + 1 + 1,2,none⟩ (.inl rfl) _) (by omega)) (((Upto.refl _ _).setCell ⟨w.heap.size + 1 + 1 + 1,0,none⟩ (.inl rfl) _).setCell ⟨w.heap.size + 1 + 1 + 1,1,none⟩ (.inl rfl) _) (by omega)) (by omega)
    have t0 := at_cell kc4 0;have t1 := at_cell kc4 1;have t2 := at_cell kc4 2;have t3 := at_cell kd4 0;have t4 := at_cell kd4 1;obtain ⟨f0,f1,f2⟩ := o3 kc4;have f3 := at_open kd4 0;have f4 := at_open kd4 1;clear b4 kc3 kd3 kc4 kd4 hv3 d3 d4 ow3 ow4
    go_wp2_with fail
    exact bodyPost_ret (v := .tuple #[.agg #[.slice y1 cs.length j1,.slice y2 ps.length j2,.slice yb ms.length jb],.agg #[.int .i64 C,.int .i64 0]]) (by simp [results,Tryz.results29,go_sem,at_cell HE.out.1,at_cell HE.out.2.1]) rfl ⟨_,_,_,ms,by rw [HXV.out.2.1,HXV.out.2.2],by rw [HXV.out.1];exact HO.out,by rw [HXV.out.1];exact HMS3.out,HE.out.2.2⟩
  · -- it is done
    have hxd := HX.out.symm.trans (didOp_yes hsb);rw [<- hxd] at h0 htold ow hm
    have HX0 : Hid (X.2.1 = 0 /\ X.2.2 = told) := ⟨h0,htold.symm⟩
    have HM : Hid (ms.map Bk.pb = X.1.bs) := hm;have ow1 := ow.below d1;subst herr;have HE : Hid _ := did_end (w := w) kc kd n1 (by omega) dd (.slice a1 m1 c1) (.slice a2 m2 c2) (.slice a3 m3 c3) (.int .i64 0) (.int .i64 told)
    have HO : Hid (OwnS w.heap.size (((((W1.setCell ⟨w.heap.size + 1 + 1,0,none⟩ (.slice a1 m1 c1)).setCell ⟨w.heap.size + 1 + 1,1,none⟩ (.slice a2 m2 c2)).setCell ⟨w.heap.size + 1 + 1,2,none⟩ (.slice a3 m3 c3)).setCell ⟨w.heap.size + 1 + 1 + 1,0,none⟩ (.int .i64 0)).setCell ⟨w.heap.size + 1 + 1 + 1,1,none⟩ (.int .i64 told)) (.slice a1 m1 c1) (.slice a2 m2 c2) (.slice a3 m3 c3) X.1.cs X.1.ps ms) := by
      refine OwnS.mono (OwnS.upto (c := w.heap.size + 1 + 1 + 1) (OwnS.upto (c := w.heap.size + 1 + 1) ow1 ((((Upto.refl _ _).setCell ⟨w.heap.size + 1 + 1,0,none⟩ (.inl rfl) _).setCell ⟨w.heap.size + 1 + 1,1,none⟩ (.inl rfl) _).setCell ⟨w.heap.size + 1 + 1,2,none⟩ (.inl rfl) _) (by omega)) (((Upto.refl _ _).setCell ⟨w.heap.size + 1 + 1 + 1,0,none⟩ (.inl rfl) _).setCell ⟨w.heap.size + 1 + 1 + 1,1,none⟩ (.inl rfl) _) (by omega)) (by omega)
    have lN := heap_lt kN;have t0 := at_cell kc 0;have t1 := at_cell kc 1;have t2 := at_cell kc 2;have t3 := at_cell kd 0;have t4 := at_cell kd 1;obtain ⟨f0,f1,f2⟩ := o3 kc;have f3 := at_open kd 0;have f4 := at_open kd 1;have g0 := at_cell kN 0;have g1 := at_cell kN 1;have g2 := at_cell kN 2;have m1' : ¬ w.heap.size + 1 + 1 = w1.heap.size := by omega
    have m2' : ¬ w1.heap.size = w.heap.size + 1 + 1 := by omega
    clear h0 htold ow hm hxd ow1 kc kd ka kN dd hv1 r1 d1
    go_upto_region 3 with fail
    rw [<- HW1.out];clear HW1
    go_wp2_with fail
    exact bodyPost_ret (v := .tuple #[.agg #[.slice a1 m1 c1,.slice a2 m2 c2,.slice a3 m3 c3],.agg #[.int .i64 0,.int .i64 told]]) (by simp [results,Tryz.results29,go_sem,at_cell HE.out.1,at_cell HE.out.2.1]) rfl ⟨_,_,_,ms,by rw [HX0.out.1,HX0.out.2],HO.out,HM.out,HE.out.2.2⟩
set_option maxHeartbeats 800000 in
theorem eqReply_same (c v : Int) (w : World) :
    Calls Tryz.prog 31 #[.agg #[.int .i64 c,.int .i64 v],.agg #[.int .i64 c,.int .i64 v]] w fun e w' => e = .returned (.bool true) /\ Below w.heap.size w w' := by
  obtain ⟨W0,hW0,kA,kB,d0,z0⟩ := box2 w #[.int .i64 c,.int .i64 v] #[.int .i64 c,.int .i64 v] 30 30;have HW0 : Hid (W0 = _) := hW0;have a0 := at_cell kA 0;have a1 := at_cell kA 1;have b0 := at_cell kB 0;have b1 := at_cell kB 1;have hs1 : (c != c) = false := by simp
  have hs2 : (v != v) = false := by simp
  clear hW0 z0
  go_enter Tryz.func31,Tryz.ntmps31
  go_upto_region 1 with fail
  rw [<- HW0.out];clear HW0
  go_wp2_with fail
  go_ret;exact ⟨rfl,d0⟩
end Go.Proofs.YtmnhnhjefocicaaGreatDoor
