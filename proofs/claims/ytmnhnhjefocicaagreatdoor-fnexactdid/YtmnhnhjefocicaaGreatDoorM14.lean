import Derived.Test.YtmnhnhjefocicaaGreatDoorM01
import Derived.Test.YtmnhnhjefocicaaGreatDoorM07
import Derived.Test.YtmnhnhjefocicaaGreatDoorM12
import Derived.Test.YtmnhnhjefocicaaGreatDoorM13
namespace Go.Proofs.YtmnhnhjefocicaaGreatDoor
open Go.RowKit
set_option linter.unusedVariables false
set_option maxRecDepth 100000
theorem OwnB.rng {lo hi base : Nat} {w w' : World} {v : Value} {bs : List Bk} (h : OwnB base w v bs) (k : Rng lo hi w w') (hb : hi <= base) : OwnB base w' v bs := ⟨own_rng h.row k hb,fun b hbm => own_rng (h.maps b hbm) k hb⟩
theorem OwnS.rng {lo hi base : Nat} {w w' : World} {v1 v2 vb : Value} {cs ps : List Int} {bks : List Bk} (h : OwnS base w v1 v2 vb cs ps bks) (k : Rng lo hi w w') (hb : hi <= base) : OwnS base w' v1 v2 vb cs ps bks := ⟨h.p.rng k hb,h.b.rng k hb,h.a⟩
theorem OwnS.span {base : Nat} {w : World} {v1 v2 vb : Value} {cs ps : List Int} {bks : List Bk} (h : OwnS base w v1 v2 vb cs ps bks) : (∀ g,(v1.ownBlock = some g \/ v2.ownBlock = some g) -> base <= g /\ g < w.heap.size) /\ (∀ g,vb.ownBlock = some g -> g < w.heap.size) /\ ∀ b ∈ bks,∀ g,b.m.ownBlock = some g -> g < w.heap.size :=
  ⟨h.p.span,fun g hg => (h.b.row.lt g hg).2,fun b hb g hg => ((h.b.maps b hb).lt g hg).2⟩
theorem own_apart {w : World} {base base' : Nat} {e e' : TypeId} {k k' n n' : Nat} {v v' : Value} {xs ys : List Value} (h : w.ownsRow base e k v n xs) (h' : w.ownsRow base' e' k' v' n' ys) (hne : e' ≠ e) (g : Nat) (hg : v'.ownBlock = some g) : v.ownBlock ≠ some g := by
  rcases h'.2 with ⟨rfl,_⟩ | ⟨g',cap',cur,rfl,_,hh,_⟩
  · simp [Value.ownBlock] at hg
  · simp [Value.ownBlock] at hg
    subst hg;exact own_not_box h hh hne
theorem OwnB.pooled {lo base : Nat} {w w' : World} {v1 v2 vb : Value} {cs ps : List Int} {bks : List Bk} (h : OwnB base w vb bks) (p : OwnP lo w v1 v2 cs ps) (k : ∀ i,i < w.heap.size -> v1.ownBlock ≠ some i -> v2.ownBlock ≠ some i -> w'.heap[i]? = w.heap[i]?) : OwnB base w' vb bks := by
  have st : ∀ (e : TypeId) (kk n : Nat) (v : Value) (xs : List Value),2 ≠ e -> w.ownsRow base e kk v n xs -> w'.ownsRow base e kk v n xs := fun e kk n v xs he hr =>
    own_rng_not hr (fun q hq hqv => k q hq (fun hx => own_apart hr p.c he q hx hqv) (fun hx => own_apart hr p.p he q hx hqv))
  exact ⟨st _ _ _ _ _ (by decide) h.row,fun b hb => st _ _ _ _ _ (by decide) (h.maps b hb)⟩
set_option maxHeartbeats 800000 in
theorem markPoolO_any (v1 v2 : Value) (cs ps : List Int) (lo : Nat) (k : Int) (w : World) (hk : 0 <= k) (hc : cs.length <= 1048576) (hp : ps.length <= 1048576) (hk2 : k <= 1073741824) (own : OwnP lo w v1 v2 cs ps) (hlo : lo <= w.heap.size) :
    Calls Tryz.prog 78 #[.agg #[v1,v2],.int .i64 k] w fun e w' => e = .returned (.int .i64 (k + cs.length + ps.length)) /\ OwnP lo w' v1 v2 (marksI k cs.length) (marksI (k + cs.length) ps.length) /\ w'.os = w.os /\ w'.tape = w.tape /\ w'.output = w.output /\ w.heap.size <= w'.heap.size /\ ∀ i,i < w.heap.size -> v1.ownBlock ≠ some i -> v2.ownBlock ≠ some i -> w'.heap[i]? = w.heap[i]? := by
  obtain ⟨W0,hW0,k0,d0,z0⟩ := box1 w #[v1,v2] 39;have own0 := own.below d0;have HW0 : Hid (W0 = _) := hW0;have HA : Hid _ := own.apart;clear hW0 own
  go_enter Tryz.func78,Tryz.ntmps78
  go_wp2_with fail
  rw [<- HW0.out];clear HW0;have HB1 : Hid (v1.ownBlock ≠ some w.heap.size) := own_not_box own0.c k0 (by decide);refine (markedIRow_any v1 cs.length lo k _ _ hk (by omega) (by omega) own0.c).mono ?_;rintro e w1 ⟨rfl,o1,b1,s1,f1⟩;have k01 := (f1 _ (by omega) HB1.out).trans k0;have o2 : w1.ownsRow lo 2 1 v2 ps.length (ps.map (Value.int .i64)) := own_rng_not own0.p (fun g hg hv => f1 g hg (fun h => HA.out g h hv));have p1 := at_cell k01 1
  have F1 : Hid (w1.os = w.os /\ w1.tape = w.tape /\ w1.output = w.output /\ w.heap.size <= w1.heap.size /\ ∀ i,i < w.heap.size -> v1.ownBlock ≠ some i -> w1.heap[i]? = w.heap[i]?) := ⟨b1.os.trans d0.os,b1.tape.trans d0.tape,b1.output.trans d0.output,by omega,fun i hi' hc => (f1 i (by omega) hc).trans (d0.block i hi')⟩
  clear f1 k0 own0 b1 d0
  go_wp2_with fail
  clear p1;refine (markedIRow_any v2 ps.length lo (k + cs.length) _ _ (by omega) (by omega) (by omega) o2).mono ?_;rintro e w2 ⟨rfl,o3,b2,s2,f2⟩;have o4 : w2.ownsRow lo 2 1 v1 cs.length ((marksI k cs.length).map (Value.int .i64)) := own_rng_not o1 (fun g hg hv => f2 g hg (fun h => HA.out g hv h))
  have HO : Hid (OwnP lo w2 v1 v2 (marksI k cs.length) (marksI (k + cs.length) ps.length)) := ⟨by rw [marksI_length];exact o4,by rw [marksI_length];exact o3,HA.out⟩
  have HE : Hid (w2.os = w.os /\ w2.tape = w.tape /\ w2.output = w.output /\ w.heap.size <= w2.heap.size /\ ∀ i,i < w.heap.size -> v1.ownBlock ≠ some i -> v2.ownBlock ≠ some i -> w2.heap[i]? = w.heap[i]?) := by
    obtain ⟨q1,q2,q3,q4,q5⟩ := F1.out;exact ⟨b2.os.trans q1,b2.tape.trans q2,b2.output.trans q3,by omega,fun i hi' h1 h2 => (f2 i (by omega) h2).trans (q5 i hi' h1)⟩
  clear f2 o1 o2 o3 o4 b2 k01
  go_wp2_with fail
  go_ret;exact ⟨rfl,HO.out,HE.out⟩
def shelfE (k : Int) (cs ps : List Int) (bks : List Bk) : Int := marksE (k + cs.length + ps.length) bks
set_option maxHeartbeats 1600000 in
theorem markShelf_any (v1 v2 vb : Value) (cs ps : List Int) (bks : List Bk) (lo hi : Nat) (k : Int) (w : World) (hk : 0 <= k) (hc : cs.length <= 1048576) (hp : ps.length <= 1048576) (hk2 : shelfE k cs ps bks <= 1073741824) (hn : ∀ b ∈ bks,b.rs.length <= 1048576) (own : OwnS lo w v1 v2 vb cs ps bks) (h1 : ∀ g,(v1.ownBlock = some g \/ v2.ownBlock = some g) -> lo <= g /\ g < hi) (h2 : ∀ g,vb.ownBlock = some g -> g < hi) (h3 : ∀ b ∈ bks,∀ g,b.m.ownBlock = some g -> g < hi) (hlo : lo <= w.heap.size) (hhi : hi <= w.heap.size) :
    Calls Tryz.prog 32 #[.agg #[v1,v2,vb],.int .i64 k] w fun e w' => e = .returned (.int .i64 (shelfE k cs ps bks)) /\ OwnS lo w' v1 v2 vb (marksI k cs.length) (marksI (k + cs.length) ps.length) (marksB (k + cs.length + ps.length) bks) /\ Rng lo hi w w' := by
  obtain ⟨o1,k1,o2,k2,ob,kb,rfl,rfl,rfl⟩ := own.forms;obtain ⟨W0,hW0,k0,d0,z0⟩ := box1 w #[.slice o1 cs.length k1,.slice o2 ps.length k2,.slice ob bks.length kb] 42;have own0 := own.below d0;have HW0 : Hid (W0 = _) := hW0;have HN : Hid _ := hn;have H2 : Hid _ := h2;have H3 : Hid _ := h3;have H1 : Hid _ := h1;have hb1 := own_not_box own0.p.c k0 (by decide);have hb2 := own_not_box own0.p.p k0 (by decide);have hkm := marksE_ge bks (k + cs.length + ps.length);unfold shelfE at hk2 ⊢;have HB : Hid _ := And.intro hb1 hb2;clear hW0 own hn h1 h2 h3 hb1 hb2
  go_enter Tryz.func32,Tryz.ntmps32
  go_wp2_with fail
  rw [<- HW0.out];clear HW0;refine (markPoolO_any _ _ cs ps lo k _ hk hc hp (by omega) own0.p (by omega)).mono ?_;rintro e w1 ⟨rfl,op,q1,q2,q3,q4,q5⟩;have ob1 := own0.b.pooled own0.p q5;have k01 := (q5 _ (by omega) HB.out.1 HB.out.2).trans k0
  have R1 : Rng lo hi w w1 := ⟨q1.trans d0.os,q2.trans d0.tape,q3.trans d0.output,by omega,fun i hi' hc => (q5 i (by omega) (fun h => by have := H1.out i (.inl h);omega) (fun h => by have := H1.out i (.inr h);omega)).trans (d0.block i hi')⟩
  have HAP : Hid _ := own0.a;have p2 := at_cell k01 2
  have HNB : Hid (∀ i,(Value.slice ob bks.length kb).ownBlock = some i -> (Value.slice o1 cs.length k1).ownBlock ≠ some i /\ (Value.slice o2 ps.length k2).ownBlock ≠ some i) := fun i h => ⟨own_apart own0.p.c own0.b.row (by decide) i h,own_apart own0.p.p own0.b.row (by decide) i h⟩
  have HNM : Hid (∀ b ∈ bks,∀ i,b.m.ownBlock = some i -> (Value.slice o1 cs.length k1).ownBlock ≠ some i /\ (Value.slice o2 ps.length k2).ownBlock ≠ some i) := fun b hb i h => ⟨own_apart own0.p.c (own0.b.maps b hb) (by decide) i h,own_apart own0.p.p (own0.b.maps b hb) (by decide) i h⟩
  have z1 := R1.size;clear q1 q2 q3 q4 q5 own0 d0 k0 k01
  go_wp2_with fail
  clear p2;refine (markBooksO_any _ bks lo (k + cs.length + ps.length) _ (by omega) hk2 HN.out ob1 HAP.out (by omega)).mono ?_;rintro e w2 ⟨rfl,ow2,q1,q2,q3,q4,q5⟩
  have op2 : OwnP lo w2 (.slice o1 cs.length k1) (.slice o2 ps.length k2) (marksI k cs.length) (marksI (k + cs.length) ps.length) := ⟨own_rng_not op.c (fun g hg hv => q5 g hg (fun h => (HNB.out g h).1 hv) (fun b hb h => (HNM.out b hb g h).1 hv)),own_rng_not op.p (fun g hg hv => q5 g hg (fun h => (HNB.out g h).2 hv) (fun b hb h => (HNM.out b hb g h).2 hv)),op.apart⟩
  have R2 : Rng lo hi w w2 := R1.trans ⟨q1,q2,q3,q4,fun i hi' hc => q5 i hi' (fun h => by have := H2.out i h;have := (ob1.row.lt i h).1;omega) (fun b hb h => by have := H3.out b hb i h;have := ((ob1.maps b hb).lt i h).1;omega)⟩
  have HO : Hid (OwnS lo w2 (.slice o1 cs.length k1) (.slice o2 ps.length k2) (.slice ob bks.length kb) (marksI k cs.length) (marksI (k + cs.length) ps.length) (marksB (k + cs.length + ps.length) bks)) := ⟨op2,ow2,apart_ms (marksB_ms _ _) HAP.out⟩
  clear q1 q2 q3 q4 q5 op op2 ow2 R1 ob1
  go_wp2_with fail
  go_ret;exact ⟨rfl,HO.out,R2⟩
set_option maxHeartbeats 1600000 in
theorem heldShelf_any (v1 v2 vb : Value) (cs ps : List Int) (bks : List Bk) (k : Int) (w : World) (hk : 0 <= k) (hc : cs.length <= 1048576) (hp : ps.length <= 1048576) (hk2 : shelfE k cs ps bks <= 1073741824) (hn : ∀ b ∈ bks,b.rs.length <= 1048576) (r : RS w.heap.size w v1 v2 vb (marksI k cs.length) (marksI (k + cs.length) ps.length) (marksB (k + cs.length + ps.length) bks)) :
    Calls Tryz.prog 33 #[.agg #[v1,v2,vb],.int .i64 k] w fun e w' => e = .returned (.int .i64 (shelfE k cs ps bks)) /\ Below w.heap.size w w' := by
  obtain ⟨o1,k1,o2,k2,ob,kb,rfl,rfl,rfl⟩ := r.forms;obtain ⟨W0,hW0,k0,d0,z0⟩ := box1 w #[.slice o1 (marksI k cs.length).length k1,.slice o2 (marksI (k + cs.length) ps.length).length k2,.slice ob (marksB (k + cs.length + ps.length) bks).length kb] 42;have HW0 : Hid (W0 = _) := hW0;have HN : Hid _ := hn;have r0 := (r.below d0).mono d0.size;have hkm := marksE_ge bks (k + cs.length + ps.length);unfold shelfE at hk2 ⊢;rw [marksI_length,marksI_length,marksB_length] at r0 k0 HW0;clear hW0 z0 r hn;rw [marksI_length,marksI_length,marksB_length]
  go_enter Tryz.func33,Tryz.ntmps33
  go_wp2_with fail
  rw [<- HW0.out];clear HW0;refine (heldPool_any _ _ cs.length ps.length k _ hk (by omega) hc hp r0.p).mono ?_;rintro e w1 ⟨rfl,b1⟩;replace k0 := (b1.block _ (heap_lt k0)).trans k0;replace d0 := bw_call d0 b1;replace r0 := (r0.below b1).mono b1.size;have p2 := at_cell k0 2;have hp0 : 0 <= k + (cs.length : Int) + (ps.length : Int) := by omega
  clear b1
  go_wp2_with fail
  clear p2;refine (heldBooks_any _ bks (k + cs.length + ps.length) _ hp0 hk2 HN.out r0.b).mono ?_;rintro e w2 ⟨rfl,b2⟩;replace d0 := bw_call d0 b2;have hp1 : 0 <= marksE (k + cs.length + ps.length) bks := by omega
  clear b2 r0 k0
  go_wp2_with fail
  go_ret;exact ⟨rfl,d0⟩
structure OwnW (base : Nat) (w : World) (v1 v2 vb : Value) (cs ps : List Int) (bks : List Bk) : Prop where
  p : OwnP base w v1 v2 cs ps
  b : OwnB base w vb bks
theorem OwnW.below {base : Nat} {w w' : World} {v1 v2 vb : Value} {cs ps : List Int} {bks : List Bk} (h : OwnW base w v1 v2 vb cs ps bks) (k : Below w.heap.size w w') : OwnW base w' v1 v2 vb cs ps bks := ⟨h.p.below k,h.b.below k⟩
theorem OwnW.upto {base c : Nat} {w w' : World} {v1 v2 vb : Value} {cs ps : List Int} {bks : List Bk} (h : OwnW base w v1 v2 vb cs ps bks) (u : Upto c w w') (hc : c < base) : OwnW base w' v1 v2 vb cs ps bks := ⟨h.p.upto u hc,h.b.upto u hc⟩
theorem OwnW.reads {base : Nat} {w : World} {v1 v2 vb : Value} {cs ps : List Int} {bks : List Bk} (h : OwnW base w v1 v2 vb cs ps bks) : RS w.heap.size w v1 v2 vb cs ps bks := ⟨h.p.reads,h.b.reads⟩
theorem OwnW.forms {base : Nat} {w : World} {v1 v2 vb : Value} {cs ps : List Int} {bks : List Bk} (h : OwnW base w v1 v2 vb cs ps bks) : ∃ o1 k1 o2 k2 ob kb,v1 = .slice o1 cs.length k1 /\ v2 = .slice o2 ps.length k2 /\ vb = .slice ob bks.length kb := h.reads.forms
theorem OwnW.box {base n : Nat} {w w' : World} {v1 v2 vb : Value} {cs ps : List Int} {bks : List Bk} {zs : Array Value} {T : TypeId} (h : OwnW base w v1 v2 vb cs ps bks) (k : w.heap[n]? = some (.cells zs T (0,0))) (u : Upto n w w') (h1 : T ≠ 2) (h2 : T ≠ 96) (h3 : T ≠ 149) : OwnW base w' v1 v2 vb cs ps bks := by
  have st : ∀ (e : TypeId) (kk m : Nat) (v : Value) (xs : List Value),T ≠ e -> w.ownsRow base e kk v m xs -> w'.ownsRow base e kk v m xs := fun e kk m v xs he hr => own_rng_not hr (fun q hq hqv => u.block q hq (fun hx => own_not_box hr k he (by rw [<- hx];exact hqv)))
  exact ⟨⟨st _ _ _ _ _ h1 h.p.c,st _ _ _ _ _ h1 h.p.p,h.p.apart⟩,⟨st _ _ _ _ _ h2 h.b.row,fun b hb => st _ _ _ _ _ h3 (h.b.maps b hb)⟩⟩
theorem OwnS.box {base n : Nat} {w w' : World} {v1 v2 vb : Value} {cs ps : List Int} {bks : List Bk} {zs : Array Value} {T : TypeId} (h : OwnS base w v1 v2 vb cs ps bks) (k : w.heap[n]? = some (.cells zs T (0,0))) (u : Upto n w w') (h1 : T ≠ 2) (h2 : T ≠ 96) (h3 : T ≠ 149) : OwnS base w' v1 v2 vb cs ps bks := by
  have q := OwnW.box ⟨h.p,h.b⟩ k u h1 h2 h3;exact ⟨q.p,q.b,h.a⟩
def InS (v1 v2 vb : Value) (bks : List Bk) (g : Nat) : Prop := v1.ownBlock = some g \/ v2.ownBlock = some g \/ vb.ownBlock = some g \/ ∃ b ∈ bks,b.m.ownBlock = some g
theorem OwnS.notBox {base n : Nat} {w : World} {v1 v2 vb : Value} {cs ps : List Int} {bks : List Bk} {zs : Array Value} {T : TypeId} (h : OwnS base w v1 v2 vb cs ps bks) (k : w.heap[n]? = some (.cells zs T (0,0))) (h1 : T ≠ 2) (h2 : T ≠ 96) (h3 : T ≠ 149) : ¬ InS v1 v2 vb bks n := by
  rintro (e | e | e | ⟨b,hb,e⟩)
  · exact own_not_box h.p.c k h1 e
  · exact own_not_box h.p.p k h1 e
  · exact own_not_box h.b.row k h2 e
  · exact own_not_box (h.b.maps b hb) k h3 e
set_option maxHeartbeats 1600000 in
theorem markShelfO_any (v1 v2 vb : Value) (cs ps : List Int) (bks : List Bk) (lo : Nat) (k : Int) (w : World) (hk : 0 <= k) (hc : cs.length <= 1048576) (hp : ps.length <= 1048576) (hk2 : shelfE k cs ps bks <= 1073741824) (hn : ∀ b ∈ bks,b.rs.length <= 1048576) (own : OwnS lo w v1 v2 vb cs ps bks) (hlo : lo <= w.heap.size) :
    Calls Tryz.prog 32 #[.agg #[v1,v2,vb],.int .i64 k] w fun e w' => e = .returned (.int .i64 (shelfE k cs ps bks)) /\ OwnS lo w' v1 v2 vb (marksI k cs.length) (marksI (k + cs.length) ps.length) (marksB (k + cs.length + ps.length) bks) /\ Only (InS v1 v2 vb bks) w w' := by
  obtain ⟨o1,k1,o2,k2,ob,kb,rfl,rfl,rfl⟩ := own.forms;obtain ⟨W0,hW0,k0,d0,z0⟩ := box1 w #[.slice o1 cs.length k1,.slice o2 ps.length k2,.slice ob bks.length kb] 42;have own0 := own.below d0;have HW0 : Hid (W0 = _) := hW0;have HN : Hid _ := hn;have hb1 := own_not_box own0.p.c k0 (by decide);have hb2 := own_not_box own0.p.p k0 (by decide);have hkm := marksE_ge bks (k + cs.length + ps.length);unfold shelfE at hk2 ⊢;have HB : Hid _ := And.intro hb1 hb2;clear hW0 own hn hb1 hb2
  go_enter Tryz.func32,Tryz.ntmps32
  go_wp2_with fail
  rw [<- HW0.out];clear HW0;refine (markPoolO_any _ _ cs ps lo k _ hk hc hp (by omega) own0.p (by omega)).mono ?_;rintro e w1 ⟨rfl,op,q1,q2,q3,q4,q5⟩;have ob1 := own0.b.pooled own0.p q5;have k01 := (q5 _ (by omega) HB.out.1 HB.out.2).trans k0
  have R1 : Only (InS (.slice o1 cs.length k1) (.slice o2 ps.length k2) (.slice ob bks.length kb) bks) w w1 := ⟨q1.trans d0.os,q2.trans d0.tape,q3.trans d0.output,by omega,fun i hi' hc => (q5 i (by omega) (fun h => hc (.inl h)) (fun h => hc (.inr (.inl h)))).trans (d0.block i hi')⟩
  have HAP : Hid _ := own0.a;have p2 := at_cell k01 2
  have HNB : Hid (∀ i,(Value.slice ob bks.length kb).ownBlock = some i -> (Value.slice o1 cs.length k1).ownBlock ≠ some i /\ (Value.slice o2 ps.length k2).ownBlock ≠ some i) := fun i h => ⟨own_apart own0.p.c own0.b.row (by decide) i h,own_apart own0.p.p own0.b.row (by decide) i h⟩
  have HNM : Hid (∀ b ∈ bks,∀ i,b.m.ownBlock = some i -> (Value.slice o1 cs.length k1).ownBlock ≠ some i /\ (Value.slice o2 ps.length k2).ownBlock ≠ some i) := fun b hb i h => ⟨own_apart own0.p.c (own0.b.maps b hb) (by decide) i h,own_apart own0.p.p (own0.b.maps b hb) (by decide) i h⟩
  have z1 := R1.size;clear q1 q2 q3 q4 q5 own0 d0 k0 k01
  go_wp2_with fail
  clear p2;refine (markBooksO_any _ bks lo (k + cs.length + ps.length) _ (by omega) hk2 HN.out ob1 HAP.out (by omega)).mono ?_;rintro e w2 ⟨rfl,ow2,q1,q2,q3,q4,q5⟩
  have op2 : OwnP lo w2 (.slice o1 cs.length k1) (.slice o2 ps.length k2) (marksI k cs.length) (marksI (k + cs.length) ps.length) := ⟨own_rng_not op.c (fun g hg hv => q5 g hg (fun h => (HNB.out g h).1 hv) (fun b hb h => (HNM.out b hb g h).1 hv)),own_rng_not op.p (fun g hg hv => q5 g hg (fun h => (HNB.out g h).2 hv) (fun b hb h => (HNM.out b hb g h).2 hv)),op.apart⟩
  have R2 : Only (InS (.slice o1 cs.length k1) (.slice o2 ps.length k2) (.slice ob bks.length kb) bks) w w2 := R1.trans ⟨q1,q2,q3,q4,fun i hi' hc => q5 i hi' (fun h => hc (.inr (.inr (.inl h)))) (fun b hb h => hc (.inr (.inr (.inr ⟨b,hb,h⟩))))⟩
  have HO : Hid (OwnS lo w2 (.slice o1 cs.length k1) (.slice o2 ps.length k2) (.slice ob bks.length kb) (marksI k cs.length) (marksI (k + cs.length) ps.length) (marksB (k + cs.length + ps.length) bks)) := ⟨op2,ow2,apart_ms (marksB_ms _ _) HAP.out⟩
  clear q1 q2 q3 q4 q5 op op2 ow2 R1 ob1
  go_wp2_with fail
  go_ret;exact ⟨rfl,HO.out,R2⟩
theorem kind_code (s : Sf) (o : Oq) (i : Nat) (b : Pb) (page : Int) : (doKind s o i b page).2.1 = 0 \/ ((doKind s o i b page).2.1 = 9 /\ o.k ≠ 9 /\ o.k ≠ 8 /\ o.k ≠ 7 /\ o.k ≠ 3) := by
  unfold doKind
  split
  · exact .inl rfl
  rename_i k1
  split
  · exact .inl rfl
  rename_i k2
  split
  · exact .inl rfl
  rename_i k3
  split
  · split <;> exact .inl rfl
  rename_i k4
  unfold doWrite
  split
  · exact .inl rfl
  split
  · exact .inl rfl
  exact .inr ⟨rfl,k1,k2,k3,k4⟩
def didOp (s : Sf) (o : Oq) : Sf × (Int × Int) := if shelfOk s = true then doOp s o else (⟨[],[],[]⟩,(1,0))
theorem didOp_no {s : Sf} {o : Oq} (h : shelfOk s = false) : didOp s o = (⟨[],[],[]⟩,(1,0)) := by rw [didOp,if_neg (by rw [h];decide)]
theorem didOp_yes {s : Sf} {o : Oq} (h : shelfOk s = true) : didOp s o = doOp s o := by rw [didOp,if_pos h]
theorem did_end {w W : World} {c d : Nat} {x0 x1 x2 x3 x4 : Value} {T U : TypeId} (kc : W.heap[c]? = some (.cells #[x0,x1,x2] T (0,0))) (kd : W.heap[d]? = some (.cells #[x3,x4] U (0,0))) (hcd : ¬ c = d) (hb : w.heap.size <= c /\ w.heap.size <= d) (h0 : Below w.heap.size w W) (y0 y1 y2 y3 y4 : Value) :
    (((((W.setCell ⟨c,0,none⟩ y0).setCell ⟨c,1,none⟩ y1).setCell ⟨c,2,none⟩ y2).setCell ⟨d,0,none⟩ y3).setCell ⟨d,1,none⟩ y4).heap[c]? = some (.cells #[y0,y1,y2] T (0,0)) /\
    (((((W.setCell ⟨c,0,none⟩ y0).setCell ⟨c,1,none⟩ y1).setCell ⟨c,2,none⟩ y2).setCell ⟨d,0,none⟩ y3).setCell ⟨d,1,none⟩ y4).heap[d]? = some (.cells #[y3,y4] U (0,0)) /\
    Below w.heap.size w (((((W.setCell ⟨c,0,none⟩ y0).setCell ⟨c,1,none⟩ y1).setCell ⟨c,2,none⟩ y2).setCell ⟨d,0,none⟩ y3).setCell ⟨d,1,none⟩ y4) := by
  have hdc : d ≠ c := fun e => hcd e.symm
  have e1 := set_at (set_at (set_at kc 0 y0) 1 y1) 2 y2
  have e2 : (((W.setCell ⟨c,0,none⟩ y0).setCell ⟨c,1,none⟩ y1).setCell ⟨c,2,none⟩ y2).heap[d]? = some (.cells #[x3,x4] U (0,0)) :=
    (Below.heap_setCell _ ⟨c,2,none⟩ y2 d hdc).trans ((Below.heap_setCell _ ⟨c,1,none⟩ y1 d hdc).trans ((Below.heap_setCell _ ⟨c,0,none⟩ y0 d hdc).trans kd))
  refine ⟨(Below.heap_setCell _ ⟨d,1,none⟩ y4 c hcd).trans ((Below.heap_setCell _ ⟨d,0,none⟩ y3 c hcd).trans e1),set_at (set_at e2 0 y3) 1 y4,?_⟩;exact bw_set (p := ⟨d,1,none⟩) (bw_set (p := ⟨d,0,none⟩) (bw_set (p := ⟨c,2,none⟩) (bw_set (p := ⟨c,1,none⟩) (bw_set (p := ⟨c,0,none⟩) h0 hb.1 _) hb.1 _) hb.1 _) hb.2 _) hb.2 _
theorem did_end2 {w W : World} {c d : Nat} {x0 x1 x2 x3 x4 : Value} {T U : TypeId} (kc : W.heap[c]? = some (.cells #[x0,x1,x2] T (0,0))) (kd : W.heap[d]? = some (.cells #[x3,x4] U (0,0))) (hcd : ¬ c = d) (hb : w.heap.size <= c /\ w.heap.size <= d) (h0 : Below w.heap.size w W) (y0 y1 y2 y3 y4 : Value) :
    (((((W.setCell ⟨d,0,none⟩ y3).setCell ⟨d,1,none⟩ y4).setCell ⟨c,0,none⟩ y0).setCell ⟨c,1,none⟩ y1).setCell ⟨c,2,none⟩ y2).heap[c]? = some (.cells #[y0,y1,y2] T (0,0)) /\
    (((((W.setCell ⟨d,0,none⟩ y3).setCell ⟨d,1,none⟩ y4).setCell ⟨c,0,none⟩ y0).setCell ⟨c,1,none⟩ y1).setCell ⟨c,2,none⟩ y2).heap[d]? = some (.cells #[y3,y4] U (0,0)) /\
    Below w.heap.size w (((((W.setCell ⟨d,0,none⟩ y3).setCell ⟨d,1,none⟩ y4).setCell ⟨c,0,none⟩ y0).setCell ⟨c,1,none⟩ y1).setCell ⟨c,2,none⟩ y2) := by
  have hdc : d ≠ c := fun e => hcd e.symm
  have e2 := set_at (set_at kd 0 y3) 1 y4
  have e1 : ((W.setCell ⟨d,0,none⟩ y3).setCell ⟨d,1,none⟩ y4).heap[c]? = some (.cells #[x0,x1,x2] T (0,0)) :=
    (Below.heap_setCell _ ⟨d,1,none⟩ y4 c hcd).trans ((Below.heap_setCell _ ⟨d,0,none⟩ y3 c hcd).trans kc)
  refine ⟨set_at (set_at (set_at e1 0 y0) 1 y1) 2 y2,(Below.heap_setCell _ ⟨c,2,none⟩ y2 d hdc).trans ((Below.heap_setCell _ ⟨c,1,none⟩ y1 d hdc).trans ((Below.heap_setCell _ ⟨c,0,none⟩ y0 d hdc).trans e2)),?_⟩;exact bw_set (p := ⟨c,2,none⟩) (bw_set (p := ⟨c,1,none⟩) (bw_set (p := ⟨c,0,none⟩) (bw_set (p := ⟨d,1,none⟩) (bw_set (p := ⟨d,0,none⟩) h0 hb.2 _) hb.2 _) hb.1 _) hb.1 _) hb.1 _
theorem did_small (s : Sf) (o : Oq) : (didOp s o).1.cs.length <= 24 /\ (didOp s o).1.ps.length <= 24 /\ (didOp s o).1.bs.length <= 6 /\ ∀ b ∈ (didOp s o).1.bs,b.rs.length <= 16 := by
  cases hs : shelfOk s
  · rw [didOp_no hs]
    exact ⟨by simp,by simp,by simp,fun b hb => by simp at hb⟩
  · rw [didOp_yes hs]
    have inv := do_inv ((shelfOk_iff s).1 hs) o;refine ⟨inv.n1.2,by rw [inv.cells.p];exact inv.n1.2,inv.few,fun b hb => ?_⟩;have h := (book_parts (inv.oks b hb)).2.2.2.1;rw [mapOk,Bool.and_eq_true,decide_eq_true_iff] at h;exact h.2
theorem tot_small : ∀ (ms : List Bk),(∀ b ∈ ms,b.rs.length <= 16) -> totB ms <= 16 * ms.length
  | [],_ => by simp [totB]
  | b :: ms,h => by
    have ih := tot_small ms (fun x hx => h x (List.mem_cons_of_mem _ hx));have hb := h b (List.mem_cons_self ..);have e : totB (b :: ms) = b.rs.length + totB ms := rfl;rw [e,List.length_cons]
    omega
theorem tot_same : ∀ (bs ms : List Bk),ms.map plainB = bs.map plainB -> totB ms = totB bs
  | [],[],_ => rfl
  | [],m :: ms,h => by simp at h
  | b :: bs,[],h => by simp at h
  | b :: bs,m :: ms,h => by
    simp only [List.map_cons,List.cons.injEq] at h;have e1 : totB (b :: bs) = b.rs.length + totB bs := rfl;have e2 : totB (m :: ms) = m.rs.length + totB ms := rfl;have h1 : m.rs = b.rs := by have := h.1;simp only [plainB,Prod.mk.injEq] at this;exact this.2.2.1
    rw [e1,e2,h1,tot_same bs ms h.2]
theorem shelfE_is (k : Int) (cs ps : List Int) (bks : List Bk) : shelfE k cs ps bks = k + cs.length + ps.length + 4 * bks.length + 3 * totB bks := by rw [shelfE,marksE_tot]
theorem only_rng {v1 v2 vb : Value} {bks : List Bk} {lo : Nat} {w w' : World} (u : Only (InS v1 v2 vb bks) w w') (h : ∀ g,InS v1 v2 vb bks g -> lo <= g /\ g < w.heap.size) : Rng lo w.heap.size w w' := ⟨u.os,u.tape,u.output,u.size,fun i hi hc => u.block i hi (fun hs => by have := h i hs;omega)⟩
theorem OwnS.ins {base : Nat} {w : World} {v1 v2 vb : Value} {cs ps : List Int} {bks : List Bk} (h : OwnS base w v1 v2 vb cs ps bks) (g : Nat) (hg : InS v1 v2 vb bks g) : base <= g /\ g < w.heap.size := by
  rcases hg with e | e | e | ⟨b,hb,e⟩
  · exact h.p.c.lt g e
  · exact h.p.p.lt g e
  · exact h.b.row.lt g e
  · exact (h.b.maps b hb).lt g e
theorem totB_take (bs : List Bk) (k : Nat) (hk : k < bs.length) : totB (bs.take (k + 1)) = totB (bs.take k) + bs[k].rs.length := by
  have e : ∀ (xs : List Bk) (y : Bk),totB (xs ++ [y]) = totB xs + y.rs.length := fun xs y => by
    induction xs with
    | nil => simp [totB]
    | cons a t ih => simp only [totB,List.cons_append,List.foldr_cons] at ih ⊢;omega
  rw [List.take_succ_eq_append_getElem hk,e]
set_option maxHeartbeats 800000 in
theorem szBook2_any (nm : ByteArray) (sz : Int) (m : Value) (rs : List (Int × Int × Int)) (fx : Bool) (ep : Int) (left : Int) (w : World) (hn : nm.size <= maxLen) (h0 : 0 <= left) (hl : left <= 1048576) (r : ReadsR 3 runC w.heap.size w m rs) :
    Calls Tryz.prog 128 #[.agg #[.string nm,.int .i64 sz,m,.bool fx,.int .i64 ep],.int .i64 left] w fun e w' => ∃ q : Int,e = .returned (.int .i64 q) /\ (q = -1 \/ (0 <= q /\ q <= left /\ nm.size <= 1048576 /\ rs.length <= 1048576 /\ q + (rs.length : Int) <= left)) /\ Below w.heap.size w w' := by
  obtain ⟨o,cap,rfl,hm,-⟩ := r;obtain ⟨W0,hW0,k0,d0,z0⟩ := box1 w #[.string nm,.int .i64 sz,.slice o rs.length cap,.bool fx,.int .i64 ep] 163;have HW0 : Hid (W0 = _) := hW0;have p0 := at_cell k0 0;have p2 := at_cell k0 2;rw [hW0] at p0 p2;clear hW0 k0;have HM : Hid _ := hm;unfold maxLen at hn hm;by_cases hb : left < (nm.size : Int)
  · have h1 : left - (nm.size : Int) < 0 := by omega
    go_enter Tryz.func128,Tryz.ntmps128
    go_wp2_with fail
    go_ret;exact ⟨-1,rfl,.inl rfl,by rw [<- HW0.out];exact d0⟩
  · have hl1 : 0 <= left - (nm.size : Int) := by omega
    have hl2 : left - (nm.size : Int) <= 1048576 := by omega
    go_enter Tryz.func128,Tryz.ntmps128
    go_wp2_with fail
    refine (szRuns_any _ _ _ _ _ hl1 hl2 HM.out).mono ?_;rintro e w' ⟨rfl,rfl⟩;by_cases hb2 : left - (nm.size : Int) < (rs.length : Int)
    · rw [if_pos hb2]
      go_wp2_with fail
      go_ret;exact ⟨-1,rfl,.inl rfl,by rw [<- HW0.out];exact d0⟩
    · rw [if_neg hb2]
      have hl3 : 0 <= left - (nm.size : Int) - (rs.length : Int) := by omega
      go_wp2_with fail
      go_ret;exact ⟨_,rfl,.inr ⟨hl3,by omega,by omega,by omega,by omega⟩,by rw [<- HW0.out];exact d0⟩
set_option maxHeartbeats 1600000 in
theorem szBooks2_any (v : Value) (bs : List Bk) (left : Int) (w : World) (h0 : 0 <= left) (hl : left <= 1048576) (hn : ∀ b ∈ bs,b.nm.size <= maxLen) (r : ReadsB w.heap.size w v bs) :
    Calls Tryz.prog 70 #[v,.int .i64 left] w fun e w' => ∃ q : Int,e = .returned (.int .i64 q) /\ (q = -1 \/ (0 <= q /\ q <= left /\ bs.length <= 1048576 /\ (∀ b ∈ bs,b.nm.size <= 1048576 /\ b.rs.length <= 1048576) /\ (totB bs : Int) <= left - q)) /\ Below w.heap.size w w' := by
  have RM : Hid _ := r.maps;have RN : Hid _ := hn;obtain ⟨o,cap,rfl,hm,hc,-⟩ := r.row;have HC : Hid _ := five_cells hc;unfold maxLen at hm;clear hc r hn;by_cases hbig : left < (bs.length : Int)
  · have h1 : left - (bs.length : Int) < 0 := by omega
    go_enter Tryz.func70,Tryz.ntmps70
    go_wp2_with fail
    go_ret;exact ⟨-1,rfl,.inl rfl,Below.refl _ _⟩
  · have h1 : 0 <= left - (bs.length : Int) := by omega
    go_enter Tryz.func70,Tryz.ntmps70
    go_wp2_with fail
    go_loopw [1,5] (fun q i wr => ∃ (k : Nat) (l : Int),k <= bs.length /\ i = .int .i64 k /\ q = .int .i64 l /\ (0 <= l /\ l <= left /\ l + (totB (bs.take k) : Int) <= left) /\ (∀ j (hj : j < bs.length),j < k -> bs[j].nm.size <= 1048576 /\ bs[j].rs.length <= 1048576) /\ Below w.heap.size w wr) (fun _ i _ => bs.length - (intOf i).toNat)
    case atStart => exact ⟨0,left - (bs.length : Int),Nat.zero_le _,rfl,rfl,⟨by omega,by omega,by rw [show totB (bs.take 0) = 0 from rfl];omega⟩,fun j _ hj => by omega,Below.refl _ _⟩
    case round =>
      obtain ⟨k,l,hk,rfl,rfl,hlq,hall,hb⟩ := hrel;have HA : Hid _ := hall;clear hall;by_cases hlt : k < bs.length
      · obtain ⟨g,off,rfl,hg,a0,a1,a2,a3,a4⟩ := HC.out k hlt
        have rm := ((RM.out bs[k] (List.getElem_mem hlt)).below hb).mono hb.size;have rn := RN.out bs[k] (List.getElem_mem hlt);have HTT : Hid _ := totB_take bs k hlt
        obtain ⟨x,hx⟩ : ∃ x,bs[k] = x := ⟨_,rfl⟩
        have HX : Hid (bs[k] = x) := hx;rw [hx] at a0 a1 a2 a3 a4 rm rn HTT;clear hx HC RM RN;obtain ⟨nm,sz,m,rs,fx,ep⟩ := x;simp only at a0 a1 a2 a3 a4 rm rn;obtain ⟨o',cap',rfl⟩ := rm.form;replace a0 := (hb.cell (p := ⟨g,off + k * 5,none⟩) hg).trans a0;replace a1 := (hb.cell (p := ⟨g,off + k * 5 + 1,none⟩) hg).trans a1;replace a2 := (hb.cell (p := ⟨g,off + k * 5 + 2,none⟩) hg).trans a2;replace a3 := (hb.cell (p := ⟨g,off + k * 5 + 3,none⟩) hg).trans a3;replace a4 := (hb.cell (p := ⟨g,off + k * 5 + 4,none⟩) hg).trans a4
        go_wp2_with fail
        refine (szBook2_any nm sz _ rs fx ep l _ rn hlq.1 (by omega) rm).mono ?_;rintro e w1 ⟨q,rfl,hq,b1⟩;replace hb := bw_call hb b1;clear a0 a1 a2 a3 a4 b1 rm rn
        rcases hq with rfl | ⟨hq0,hq1,hq2,hq3,hq4⟩
        · go_wp2_with fail
          go_ret;exact ⟨-1,rfl,.inl rfl,hb⟩
        · have HN : Hid (∀ j (hj : j < bs.length),j < k + 1 -> bs[j].nm.size <= 1048576 /\ bs[j].rs.length <= 1048576) := fun j hj hjk => by
            rcases Nat.lt_or_ge j k with y | y
            · exact HA.out j hj y
            · obtain rfl : j = k := by omega
              rw [HX.out];exact ⟨hq2,hq3⟩
          have HSS : Hid (q + (totB (bs.take (k + 1)) : Int) <= left) := by have h := HTT.out;rw [Hid,h];omega
          clear HA HX hq2 hq3 hq4 HTT
          go_wp2_with fail
          go_roundw
          case rel => exact ⟨k + 1,q,by omega,by go_num,rfl,⟨by omega,by omega,HSS.out⟩,HN.out,hb⟩
          case measure => simp [intOf];omega
      · have HB : Hid (∀ b ∈ bs,b.nm.size <= 1048576 /\ b.rs.length <= 1048576) := fun b hbm => by
          obtain ⟨j,hj,rfl⟩ := List.getElem_of_mem hbm;exact HA.out j hj (by omega)
        have htk : bs.take k = bs := List.take_of_length_le (by omega);rw [htk] at hlq;have HLQ : Hid _ := hlq;have hl1 := hlq.1;have hl2 := hlq.2.1;clear HA HC RM RN hlq htk
        go_wp2_with fail
        go_ret;exact ⟨l,rfl,.inr ⟨HLQ.out.1,HLQ.out.2.1,by omega,HB.out,by have := HLQ.out.2.2;omega⟩,hb⟩
set_option maxHeartbeats 1600000 in
theorem szShelf2_any (v1 v2 vb : Value) (cs ps : List Int) (bks : List Bk) (left : Int) (w : World) (h0 : 0 <= left) (hl : left <= 1048576) (hn : ∀ b ∈ bks,b.nm.size <= maxLen) (r : RS w.heap.size w v1 v2 vb cs ps bks) :
    Calls Tryz.prog 25 #[.agg #[v1,v2,vb],.int .i64 left] w fun e w' => ∃ q : Int,e = .returned (.int .i64 q) /\ (q = -1 \/ (0 <= q /\ q <= left /\ cs.length <= 1048576 /\ ps.length <= 1048576 /\ bks.length <= 1048576 /\ (∀ b ∈ bks,b.nm.size <= 1048576 /\ b.rs.length <= 1048576) /\ totB bks <= 1048576)) /\ Below w.heap.size w w' := by
  obtain ⟨o1,k1,o2,k2,ob,kb,rfl,rfl,rfl⟩ := r.forms;obtain ⟨W0,hW0,k0,d0,z0⟩ := box1 w #[.slice o1 cs.length k1,.slice o2 ps.length k2,.slice ob bks.length kb] 56;have HW0 : Hid (W0 = _) := hW0;have r0 := (r.below d0).mono d0.size;clear hW0 z0 r
  go_enter Tryz.func25,Tryz.ntmps25
  go_wp2_with fail
  rw [<- HW0.out];clear HW0;refine (szPool_any _ _ cs ps left _ h0 hl r0.p).mono ?_;rintro e w1 ⟨q,rfl,hq,b1⟩;replace k0 := (b1.block _ (heap_lt k0)).trans k0;replace d0 := bw_call d0 b1;replace r0 := (r0.below b1).mono b1.size;clear b1
  rcases hq with rfl | ⟨hq0,hq1,hq2,hq3⟩
  · clear k0 r0
    go_wp2_with fail
    go_ret;exact ⟨-1,rfl,.inl rfl,d0⟩
  have p2 := at_cell k0 2
  go_wp2_with fail
  clear p2;refine (szBooks2_any _ bks q _ hq0 (by omega) hn r0.b).mono ?_;rintro e w2 ⟨q',rfl,hq',b2⟩;replace d0 := bw_call d0 b2;clear b2 k0 r0
  rcases hq' with rfl | ⟨h1,h2,h3,h4⟩
  · go_wp2_with fail
    go_ret;exact ⟨-1,rfl,.inl rfl,d0⟩
  have H4 : Hid _ := h4;clear h4
  go_wp2_with fail
  go_ret;exact ⟨q',rfl,.inr ⟨h1,by omega,hq2,hq3,h3,H4.out.1,by have := H4.out.2;omega⟩,d0⟩
structure TwoBox (W F : World) (c d : Nat) (t u : TypeId) (y0 y1 y2 y3 y4 : Value) (Q : World -> Prop) : Prop where
  s : F.heap[c]? = some (.cells #[y0,y1,y2] t (0,0))
  r : F.heap[d]? = some (.cells #[y3,y4] u (0,0))
  q : Q F
  b : Below W.heap.size W F
  ls : W.heap.size <= c
  lr : W.heap.size <= d
theorem TwoBox.imp {W F : World} {c d : Nat} {t u : TypeId} {y0 y1 y2 y3 y4 : Value} {Q Q' : World -> Prop} (h : TwoBox W F c d t u y0 y1 y2 y3 y4 Q) (k : ∀ X,Q X -> Q' X) : TwoBox W F c d t u y0 y1 y2 y3 y4 Q' := ⟨h.s,h.r,k _ h.q,h.b,h.ls,h.lr⟩
end Go.Proofs.YtmnhnhjefocicaaGreatDoor
