import Derived.Deep.DeepCutAuto
import Derived.Lib.Strings
import Derived.Lib.Slices
import Derived.Lib.Walk
import Derived.Lib.Bytealg
import Derived.Test.YtcefcglonooelaaGreatDoorA05
import Derived.Test.YtcefcglonooelaaGreatDoorA06
import Derived.Test.YtcefcglonooelaaGreatDoorA08
import Derived.Test.YtcefcglonooelaaGreatDoorA09
import Derived.Test.YtcefcglonooelaaGreatDoorA11
import Derived.Test.YtcefcglonooelaaGreatDoorA15
import Derived.Test.YtcefcglonooelaaGreatDoorA25
namespace Go.Proofs.YtcefcglonooelaaGreatDoor
open Go.RowKit
set_option linter.unusedVariables false
set_option maxRecDepth 100000
theorem Reads.upto {B c : Nat} {w w' : World} {v : Value} {xs : List Value} (h : Reads B w v xs) (u : Upto c w w') (hB : B <= w.heap.size) (hc : v.ownBlock ≠ some c) : Reads B w' v xs := by
  obtain ⟨o,cap,rfl,hm,hc',hr⟩ := h;refine ⟨o,cap,rfl,hm,fun j y hj => ?_,hr⟩;obtain ⟨g,off,rfl,hg,hx⟩ := hc' j y hj;exact ⟨g,off,rfl,hg,(u.cell (p := ⟨g,off + j,Option.none⟩) (Nat.lt_of_lt_of_le hg hB) (fun e => hc (by simp only at e;rw [e];rfl))).trans hx⟩
theorem RP.upto {B c : Nat} {w w' : World} {v1 v2 : Value} {cs ps : List Int} (h : RP B w v1 v2 cs ps) (u : Upto c w w') (hB : B <= w.heap.size) (h1 : v1.ownBlock ≠ some c) (h2 : v2.ownBlock ≠ some c) : RP B w' v1 v2 cs ps :=
  ⟨h.c.upto u hB h1,h.p.upto u hB h2⟩
theorem Upto.undrew {c : Nat} {w w' : World} (u : Upto c w.drew w') : Upto c w w' := ⟨u.os,u.tape,u.output,u.size,u.block⟩
theorem own_len {w : World} {base g n cap m : Nat} {e : TypeId} {xs : List Value} (h : w.ownsRow base e 1 (.slice (some ⟨g,0,none⟩) n cap) m xs) : n = m := by
  rcases h.2 with ⟨h',_⟩ | ⟨g',cap',cur,h',_⟩
  · cases h'
  · simp only [Value.slice.injEq] at h'
    exact h'.2.1
theorem OwnP.at1 {base g n cap : Nat} {w : World} {v2 : Value} {cs ps : List Int} (h : OwnP base w (.slice (some ⟨g,0,none⟩) n cap) v2 cs ps) (j : Nat) (hj : j < n) : w.cell? ⟨g,j,none⟩ = some (.int .i64 (cs.getD j 0)) /\ w.frozen? ⟨g,j,none⟩ = false := by
  have e := own_len h.c;subst e;exact ⟨(h.c.cellAt j (by omega)).trans (getD_some cs j hj),h.c.frozenAt j⟩
theorem OwnP.at2 {base g n cap : Nat} {w : World} {v1 : Value} {cs ps : List Int} (h : OwnP base w v1 (.slice (some ⟨g,0,none⟩) n cap) cs ps) (j : Nat) (hj : j < n) : w.cell? ⟨g,j,none⟩ = some (.int .i64 (ps.getD j 0)) /\ w.frozen? ⟨g,j,none⟩ = false := by
  have e := own_len h.p;subst e;exact ⟨(h.p.cellAt j (by omega)).trans (getD_some ps j hj),h.p.frozenAt j⟩
theorem OwnP.put1 {base g n cap : Nat} {w : World} {v2 : Value} {cs ps : List Int} (h : OwnP base w (.slice (some ⟨g,0,none⟩) n cap) v2 cs ps) (j : Nat) (x : Int) : OwnP base (w.setCell ⟨g,j,none⟩ (.int .i64 x)) (.slice (some ⟨g,0,none⟩) n cap) v2 (cs.set j x) ps := by
  have e := own_len h.c;subst e;exact h.set1 j x
theorem OwnP.put2 {base g n cap : Nat} {w : World} {v1 : Value} {cs ps : List Int} (h : OwnP base w v1 (.slice (some ⟨g,0,none⟩) n cap) cs ps) (j : Nat) (x : Int) : OwnP base (w.setCell ⟨g,j,none⟩ (.int .i64 x)) v1 (.slice (some ⟨g,0,none⟩) n cap) cs (ps.set j x) := by
  have e := own_len h.p;subst e;exact h.set2 j x
theorem drawn_end {c wn : Nat} {x : Option Addr} {len cap : Nat} {w W : World} {a1 a2 p q : Value} {cs ps : List Int} (hc : c < wn) (hwn : wn = w.heap.size) (kR : W.heap[wn]? = some (.cells #[p,q] 39 (0,0))) (r : RP W.heap.size W a1 a2 cs ps)
    (n1 : a1.ownBlock ≠ some c /\ a1.ownBlock ≠ some wn) (n2 : a2.ownBlock ≠ some c /\ a2.ownBlock ≠ some wn) (u : Upto c w W) (kc : Cur W c x len cap) :
    ((W.setCell ⟨wn,0,none⟩ a1).setCell ⟨wn,1,none⟩ a2).heap[wn]? = some (.cells #[a1,a2] 39 (0,0)) /\ RP ((W.setCell ⟨wn,0,none⟩ a1).setCell ⟨wn,1,none⟩ a2).heap.size ((W.setCell ⟨wn,0,none⟩ a1).setCell ⟨wn,1,none⟩ a2) a1 a2 cs ps /\
    Upto c w ((W.setCell ⟨wn,0,none⟩ a1).setCell ⟨wn,1,none⟩ a2) /\ Cur ((W.setCell ⟨wn,0,none⟩ a1).setCell ⟨wn,1,none⟩ a2) c x len cap := by
  obtain ⟨s1,u1⟩ := set_two kR a1 a2;refine ⟨s1,(r.upto u1 (Nat.le_refl _) n1.2 n2.2).mono u1.size,(u.setCell _ (.inr (by show w.heap.size <= wn;omega)) _).setCell _ (.inr (by show w.heap.size <= wn;omega)) _,kc.same (u1.toBelow kc.lt (by omega))⟩
structure DrawSt (c nP base g1 g2 n c1 c2 : Nat) (x : Option Addr) (len cap : Nat) (w W : World) (cs ps : List Int) : Prop where
  own : OwnP base W (.slice (some ⟨g1,0,none⟩) n c1) (.slice (some ⟨g2,0,none⟩) n c2) cs ps
  kP : W.heap[nP]? = some (.cells #[.slice (some ⟨g1,0,none⟩) n c1,.slice (some ⟨g2,0,none⟩) n c2] 39 (0,0))
  kR : W.heap[w.heap.size]? = some (.cells #[.slice none 0 0,.slice none 0 0] 39 (0,0))
  kc : Cur W c x len cap
  u : Upto c w W
  lt : c < base /\ w.heap.size < base /\ c < nP /\ w.heap.size < nP /\ c < w.heap.size
theorem DrawSt.step {c nP base g1 g2 n c1 c2 : Nat} {x : Option Addr} {len cap : Nat} {w W W' : World} {cs ps : List Int} (h : DrawSt c nP base g1 g2 n c1 c2 x len cap w W cs ps) (u : Upto c W W') (kc : Cur W' c x len cap) : DrawSt c nP base g1 g2 n c1 c2 x len cap w W' cs ps := by
  have := h.lt;exact ⟨h.own.upto u (by omega),(u.block _ (heap_lt h.kP) (by omega)).trans h.kP,(u.block _ (heap_lt h.kR) (by omega)).trans h.kR,kc,h.u.trans u,h.lt⟩
theorem DrawSt.alloc {c nP base g1 g2 n c1 c2 : Nat} {x : Option Addr} {len cap : Nat} {w W : World} {cs ps : List Int} (h : DrawSt c nP base g1 g2 n c1 c2 x len cap w W cs ps) (o : Obj) : DrawSt c nP base g1 g2 n c1 c2 x len cap w (W.alloc o) cs ps :=
  h.step ((Upto.refl c W).alloc o) (h.kc.alloc o)
theorem DrawSt.ne {c nP base g1 g2 n c1 c2 : Nat} {x : Option Addr} {len cap : Nat} {w W : World} {cs ps : List Int} (h : DrawSt c nP base g1 g2 n c1 c2 x len cap w W cs ps) : (g1 ≠ nP /\ g1 ≠ w.heap.size /\ base <= g1 /\ g1 < W.heap.size) /\ (g2 ≠ nP /\ g2 ≠ w.heap.size /\ base <= g2 /\ g2 < W.heap.size) := by
  have h1 := own_not_box h.own.c h.kP (by decide);have h2 := own_not_box h.own.p h.kP (by decide);have h3 := h.own.c.lt g1 rfl;have h4 := h.own.p.lt g2 rfl;have := h.lt;exact ⟨⟨fun e => h1 (by rw [e];rfl),by omega,h3.1,h3.2⟩,⟨fun e => h2 (by rw [e];rfl),by omega,h4.1,h4.2⟩⟩
theorem DrawSt.put1 {c nP base g1 g2 n c1 c2 : Nat} {x : Option Addr} {len cap : Nat} {w W : World} {cs ps : List Int} (h : DrawSt c nP base g1 g2 n c1 c2 x len cap w W cs ps) (j : Nat) (z : Int) : DrawSt c nP base g1 g2 n c1 c2 x len cap w (W.setCell ⟨g1,j,none⟩ (.int .i64 z)) (cs.set j z) ps := by
  have u : Upto g1 W (W.setCell ⟨g1,j,none⟩ (.int .i64 z)) := (Upto.refl _ _).setCell ⟨g1,j,none⟩ (.inl rfl) _;have := h.lt;have := h.ne;have h5 := h.kc.lt;exact ⟨h.own.put1 j z,(u.block _ (heap_lt h.kP) (by omega)).trans h.kP,(u.block _ (heap_lt h.kR) (by omega)).trans h.kR,h.kc.same (u.toBelow h5 (by omega)),h.u.setCell _ (.inr (by show w.heap.size <= g1;omega)) _,h.lt⟩
theorem DrawSt.put2 {c nP base g1 g2 n c1 c2 : Nat} {x : Option Addr} {len cap : Nat} {w W : World} {cs ps : List Int} (h : DrawSt c nP base g1 g2 n c1 c2 x len cap w W cs ps) (j : Nat) (z : Int) : DrawSt c nP base g1 g2 n c1 c2 x len cap w (W.setCell ⟨g2,j,none⟩ (.int .i64 z)) cs (ps.set j z) := by
  have u : Upto g2 W (W.setCell ⟨g2,j,none⟩ (.int .i64 z)) := (Upto.refl _ _).setCell ⟨g2,j,none⟩ (.inl rfl) _;have := h.lt;have := h.ne;have h5 := h.kc.lt;exact ⟨h.own.put2 j z,(u.block _ (heap_lt h.kP) (by omega)).trans h.kP,(u.block _ (heap_lt h.kR) (by omega)).trans h.kR,h.kc.same (u.toBelow h5 (by omega)),h.u.setCell _ (.inr (by show w.heap.size <= g2;omega)) _,h.lt⟩
theorem row_tail {B : Nat} {W : World} {g n cap : Nat} {ps : List Int} (r : Reads B W (.slice (some ⟨g,0,none⟩) n cap) (ps.map (Value.int .i64))) (hn : 1 <= n) (a : Value) (ha : (cap = 1 /\ a = .slice (some ⟨g,0,none⟩) 0 0) \/ (1 < cap /\ a = .slice (some ⟨g,1,none⟩) (n - 1) (cap - 1))) : Reads B W a ((ps.drop 1).map (Value.int .i64)) := by
  obtain ⟨o,c,hv,hm,hc,hr⟩ := r;simp only [Value.slice.injEq,List.length_map] at hv;obtain ⟨rfl,rfl,rfl⟩ := hv;rw [List.length_map] at hm hr
  rcases ha with ⟨h1,rfl⟩ | ⟨h1,rfl⟩
  · have hl : ps.length = 1 := by omega
    have e : (ps.drop 1).map (Value.int .i64) = [] := by rw [List.drop_of_length_le (by omega)];rfl
    rw [e];exact ⟨_,_,rfl,Nat.zero_le _,fun j u hj => by simp at hj,Nat.le_refl _⟩
  · refine ⟨some ⟨g,1,none⟩,cap - 1,by simp,by simp;omega,fun j u hj => ?_,by simp;omega⟩
    rw [List.map_drop,List.getElem?_drop] at hj;obtain ⟨g',off,e,hg,hx⟩ := hc (1 + j) u hj;cases e;exact ⟨g,1,rfl,hg,by rw [<- hx,Nat.zero_add]⟩
theorem DrawSt.tail {c nP base g1 g2 n c1 c2 : Nat} {x : Option Addr} {len cap : Nat} {w W : World} {cs ps : List Int} (h : DrawSt c nP base g1 g2 n c1 c2 x len cap w W cs ps) (hn : 1 <= n) (a : Value) (ha : (c2 = 1 /\ a = .slice (some ⟨g2,0,none⟩) 0 0) \/ (1 < c2 /\ a = .slice (some ⟨g2,1,none⟩) (n - 1) (c2 - 1))) :
    RP (W.setCell ⟨nP,1,none⟩ a).heap.size (W.setCell ⟨nP,1,none⟩ a) (.slice (some ⟨g1,0,none⟩) n c1) a cs (ps.drop 1) /\ (W.setCell ⟨nP,1,none⟩ a).heap[nP]? = some (.cells #[.slice (some ⟨g1,0,none⟩) n c1,a] 39 (0,0)) /\
    (W.setCell ⟨nP,1,none⟩ a).heap[w.heap.size]? = some (.cells #[.slice none 0 0,.slice none 0 0] 39 (0,0)) /\ Cur (W.setCell ⟨nP,1,none⟩ a) c x len cap /\ Upto c w (W.setCell ⟨nP,1,none⟩ a) /\ a.ownBlock = some g2 := by
  have u : Upto nP W (W.setCell ⟨nP,1,none⟩ a) := (Upto.refl _ _).setCell ⟨nP,1,none⟩ (.inl rfl) _;have := h.lt;have := h.ne;have h5 := h.kc.lt;have r := (h.own.reads.upto u (Nat.le_refl _) (by simp [Value.ownBlock];omega) (by simp [Value.ownBlock];omega)).mono u.size;refine ⟨⟨r.c,row_tail r.p hn a ha⟩,set_1 h.kP a,(u.block _ (heap_lt h.kR) (by omega)).trans h.kR,h.kc.same (u.toBelow h5 (by omega)),h.u.setCell _ (.inr (by show w.heap.size <= nP;omega)) _,?_⟩;rcases ha with ⟨_,rfl⟩ | ⟨_,rfl⟩ <;> rfl
def DrawnSt (c nP : Nat) (x : Option Addr) (len cap : Nat) (w W : World) : Prop :=
  ∃ (o1 o2 : Option Addr) (l1 l2 k1 k2 : Nat) (cs ps : List Int),W.heap[nP]? = some (.cells #[.slice o1 l1 k1,.slice o2 l2 k2] 39 (0,0)) /\ W.heap[w.heap.size]? = some (.cells #[.slice none 0 0,.slice none 0 0] 39 (0,0)) /\ RP W.heap.size W (.slice o1 l1 k1) (.slice o2 l2 k2) cs ps /\
    (∀ b,b <= w.heap.size -> (Value.slice o1 l1 k1).ownBlock ≠ some b) /\ (∀ b,b <= w.heap.size -> (Value.slice o2 l2 k2).ownBlock ≠ some b) /\ Upto c w W /\ Cur W c x len cap
theorem DrawSt.drawn {c nP base g1 g2 n c1 c2 : Nat} {x : Option Addr} {len cap : Nat} {w W : World} {cs ps : List Int} (h : DrawSt c nP base g1 g2 n c1 c2 x len cap w W cs ps) : DrawnSt c nP x len cap w W := by
  have := h.lt;have := h.ne;exact ⟨_,_,_,_,_,_,_,_,h.kP,h.kR,h.own.reads,fun b hb => by simp [Value.ownBlock];omega,fun b hb => by simp [Value.ownBlock];omega,h.u,h.kc⟩
theorem DrawSt.drawnTail {c nP base g1 g2 n c1 c2 : Nat} {x : Option Addr} {len cap : Nat} {w W : World} {cs ps : List Int} (h : DrawSt c nP base g1 g2 n c1 c2 x len cap w W cs ps) (hn : 1 <= n) (o : Option Addr) (l k : Nat) (ha : (c2 = 1 /\ Value.slice o l k = .slice (some ⟨g2,0,none⟩) 0 0) \/ (1 < c2 /\ Value.slice o l k = .slice (some ⟨g2,1,none⟩) (n - 1) (c2 - 1))) :
    DrawnSt c nP x len cap w (W.setCell ⟨nP,1,none⟩ (.slice o l k)) := by
  obtain ⟨r8,kP8,kR8,kc8,u8,hb8⟩ := h.tail hn _ ha;have := h.lt;have := h.ne;exact ⟨_,_,_,_,_,_,_,_,kP8,kR8,r8,fun b hb => by simp [Value.ownBlock];omega,fun b hb => by rw [hb8];simp;omega,u8,kc8⟩
theorem DrawSt.drawnNil {c nP base g1 g2 n c1 c2 : Nat} {x : Option Addr} {len cap : Nat} {w W : World} {cs ps : List Int} (h : DrawSt c nP base g1 g2 n c1 c2 x len cap w W cs ps) :
    DrawnSt c nP x len cap w ((W.setCell ⟨nP,0,none⟩ (.slice none 0 0)).setCell ⟨nP,1,none⟩ (.slice none 0 0)) := by
  obtain ⟨kP8,u8⟩ := set_two h.kP (.slice none 0 0) (.slice none 0 0);have LT := h.lt;have kR8 := (u8.block _ (heap_lt h.kR) (by omega)).trans h.kR;have kc8 := h.kc.same (u8.toBelow h.kc.lt (by omega));have U8 := (h.u.setCell ⟨nP,0,none⟩ (.inr (by show w.heap.size <= nP;omega)) (.slice none 0 0)).setCell ⟨nP,1,none⟩ (.inr (by show w.heap.size <= nP;omega)) (.slice none 0 0);exact ⟨_,_,_,_,_,_,[],[],kP8,kR8,⟨Reads.none _ _,Reads.none _ _⟩,fun b hb => by simp [Value.ownBlock],fun b hb => by simp [Value.ownBlock],U8,kc8⟩
set_option maxHeartbeats 6400000 in
theorem draw4_any (c : Nat) (x : Option Addr) (len cap : Nat) (w : World) (hc : Cur w c x len cap) :
    Calls Tryz.prog 91 #[.pointer (some ⟨c,0,none⟩)] w fun e w' => ∃ (u1 u2 : Value) (cs ps : List Int),e = .returned (.agg #[u1,u2]) /\ RP w'.heap.size w' u1 u2 cs ps /\ (∀ b,b <= w.heap.size -> u1.ownBlock ≠ some b /\ u2.ownBlock ≠ some b) /\ Upto c w w' /\ Cur w' c x len cap := by
  have hlt := hc.lt;obtain ⟨W0,hW0,kR,d0,z0⟩ := box1 w #[.slice none 0 0,.slice none 0 0] 39;have kc : Cur W0 c x len cap := hc.below d0;have u : Upto c w W0 := Upto.ofBelow d0;have HW0 : Hid (W0 = _) := hW0;have sR : w.heap.size < W0.heap.size := by omega
  clear hW0 hc d0 z0
  go_enter Tryz.func91,Tryz.ntmps91
  go_wp2_with fail
  rw [<- HW0.out];clear HW0;refine (below_any c x len cap 6 _ (by omega) kc).mono ?_;rintro e w1 ⟨m,rfl,hm,u1,k1⟩;have hm6 : m < 6 := hm.2.1 (by omega);have hm0 := hm.1;replace kR := (u1.block _ sR (by omega)).trans kR;replace sR := Nat.lt_of_lt_of_le sR u1.size;replace u := u.trans u1;clear u1 hm kc
  go_wp2_with fail
  refine (specNewPool_any (1 + m) _).mono ?_
  obtain ⟨n,hn⟩ : ∃ n : Nat,1 + m = n := ⟨(1 + m).toNat,by omega⟩
  have hv : newPool (1 + m) = ((List.replicate n 0,List.replicate n 0),true) := by
    unfold newPool;rw [if_pos (by omega),hn,Int.toNat_natCast]
  rw [hv];have hn1 : 1 <= n := by omega
  have hn6 : n <= 6 := by omega
  clear hv;rintro e w2 ⟨v1,v2,rfl,own,b2⟩;simp only at own ⊢;obtain ⟨g1,c1,g2,c2,rfl,rfl,hne⟩ := own_form2 own (by simp;omega) (by simp);simp only [List.length_replicate] at own ⊢;have hcb : c < w1.heap.size := k1.lt;have hRb : w.heap.size < w1.heap.size := sR;replace kR := (b2.block _ sR).trans kR;replace sR := Nat.lt_of_lt_of_le sR b2.size;replace u := u.below b2;have kc := k1.below b2;clear k1 b2 hm0 hm6 hn;have bP : Below w2.heap.size w2 (w2.alloc (.cells #[.slice (some ⟨g1,0,none⟩) n c1,.slice (some ⟨g2,0,none⟩) n c2] 39)) := bw_alloc (Below.refl _ _);have kP := heap_alloc_new w2 (.cells #[.slice (some ⟨g1,0,none⟩) n c1,.slice (some ⟨g2,0,none⟩) n c2] 39);replace kR := (bP.block _ sR).trans kR;replace u := u.below bP;replace kc := kc.below bP;replace own := own.below bP;have hPR : w.heap.size < w2.heap.size := sR;have hPc : c < w2.heap.size := by have := u.size;omega
  clear bP sR
  go_wp2_with fail
  generalize w2.alloc (.cells #[.slice (some ⟨g1,0,none⟩) n c1,.slice (some ⟨g2,0,none⟩) n c2] 39) = W3 at *;generalize w2.heap.size = nP at *;generalize w1.heap.size = base at *
  have st0 : DrawSt c nP base g1 g2 n c1 c2 x len cap w W3 (List.replicate n 0) (List.replicate n 0) := ⟨own,kP,kR,kc,u,by omega⟩
  clear hcb hRb own kP kR kc u hPR hPc
  go_loopw [5] (fun i wr => ∃ (q : Nat) (cs ps : List Int),q <= n /\ i = .int .i64 q /\ DrawSt c nP base g1 g2 n c1 c2 x len cap w wr cs ps) (fun i _ => n - (intOf i).toNat)
  case atStart => exact ⟨0,_,_,Nat.zero_le _,rfl,st0⟩
  case round =>
    clear st0;obtain ⟨q,cs,ps,hq,rfl,st⟩ := hrel;have p0 := at_cell st.kP 0;by_cases hlt2 : q < n
    · go_wp2_with fail
      clear p0;refine (once_any c x len cap 2 _ (by omega) st.kc).mono ?_;rintro e w4 ⟨y,rfl,u4,k4⟩;have st4 := st.step u4 k4;clear u4 k4 st;cases y
      · go_wp2_with fail
        go_roundw
        case rel => exact ⟨q + 1,cs,ps,by omega,by go_num,st4⟩
        case measure => simp [intOf];omega
      · have hq0 : (0 : Int) <= (q : Int) := by omega
        have hq1 : (q : Int) < (n : Int) := by omega
        go_wp2_with fail
        have HL : Hid (∀ jn : Nat,jn < 5 -> ∃ z : Int,(#[.int .i64 1,.int .i64 1,.int .i64 2,.int .i64 3,.int .i64 400] : Array Value)[jn]? = some (.int .i64 z)) := fun jn h => by
          have h5 : jn = 0 \/ jn = 1 \/ jn = 2 \/ jn = 3 \/ jn = 4 := by omega
          rcases h5 with rfl | rfl | rfl | rfl | rfl
          · exact ⟨1,rfl⟩
          · exact ⟨1,rfl⟩
          · exact ⟨2,rfl⟩
          · exact ⟨3,rfl⟩
          · exact ⟨400,rfl⟩
        have S0 : w4.drew.cell? ⟨nP,0,none⟩ = some (.slice (some ⟨g1,0,none⟩) n c1) := at_cell st4.kP 0;have S1 : w4.cell? ⟨nP,0,none⟩ = some (.slice (some ⟨g1,0,none⟩) n c1) := at_cell st4.kP 0;have M4 := heap_lt st4.kP;have N4 : ¬ nP = w4.heap.size := by omega
        go_cut [] (fun wx => ∃ zs : List Int,DrawSt c nP base g1 g2 n c1 c2 x len cap w wx zs ps)
        case first =>
          go_region_law (go_simp;go_at_call 36;refine (below_any c x len cap 5 _ (by omega) (by first | exact st4.kc.drew | exact (st4.kc.alloc _).drew)).mono ?_;rintro e w5 ⟨y,rfl,hy,u5,k5⟩;have hy5 := hy.2.1 (by omega);obtain ⟨jn,rfl⟩ := Int.eq_ofNat_of_zero_le hy.1;obtain ⟨z,hz⟩ := HL.out jn (by omega);have hy6 : (0 : Int) <= (jn : Int) := (by omega);have hz2 : ∀ W : World,(W.alloc (.cells #[.int .i64 1,.int .i64 1,.int .i64 2,.int .i64 3,.int .i64 400] 2)).cell? ⟨W.heap.size,jn,none⟩ = some (.int .i64 z) := (fun W => (World.cell?_alloc_mark W _ _ (0,0) jn).trans hz);have U5 : Upto c w4 w5 := (by first | exact u5.undrew | exact ((Upto.refl c w4).alloc _).trans u5.undrew);(first | (have hz1 : w5.cell? ⟨w4.heap.size,jn,none⟩ = some (.int .i64 z) := (pick_cell u5.undrew st4.kc.lt jn).trans hz) | skip);have st5 := st4.step U5 k5;have S5 := at_cell st5.kP 0;have A5 := (st5.own.at1 q hlt2).1;have F5 := (st5.own.at1 q hlt2).2;have NE5 := st5.ne;have N5 : ¬ g1 = w5.heap.size := (by omega);have G5 : g1 < w5.heap.size := (by omega);have M5 := heap_lt st5.kP;have O5 : ¬ nP = w5.heap.size := (by omega);clear NE5;dsimp only)
          all_goals (try go_wp2_with fail)
          all_goals go_meet
          all_goals first | exact ⟨_,st5.put1 q z⟩ | exact ⟨_,(st5.put1 q z).alloc _⟩
        case rest =>
          obtain ⟨zs,st6⟩ := hcut;clear st4 HL S0 S1 M4 N4;have S0 : wc.drew.cell? ⟨nP,1,none⟩ = some (.slice (some ⟨g2,0,none⟩) n c2) := at_cell st6.kP 1;have S1 : wc.cell? ⟨nP,1,none⟩ = some (.slice (some ⟨g2,0,none⟩) n c2) := at_cell st6.kP 1
          go_wp2_with fail
          go_region_law (go_simp;go_at_call 36;refine (below_any c x len cap 50 _ (by omega) st6.kc.drew).mono ?_;rintro e w7 ⟨y,rfl,hy,u7,k7⟩;have st7 := st6.step u7.undrew k7;have S7 := at_cell st7.kP 1;have A7 := (st7.own.at2 q hlt2).1;have F7 := (st7.own.at2 q hlt2).2;dsimp only)
          all_goals
            have st8 := st7.put2 q y;clear S0 S1 S7 A7 F7 st6 st7
            go_wp2_with fail
            go_roundw
            case rel => exact ⟨q + 1,zs,_,by omega,by go_num,st8⟩
            case measure => simp [intOf];omega
    · go_wp2_with fail
      clear p0;refine (once_any c x len cap 10 _ (by omega) st.kc).mono ?_;rintro e w4 ⟨y,rfl,u4,k4⟩;have st4 := st.step u4 k4;clear u4 k4 st
      go_upto_if 38 with fail
      go_cut [] (fun wx => DrawnSt c nP x len cap w wx)
      case first =>
        cases y
        · go_wp2_with fail
          go_meet
          exact st4.drawn
        · go_wp2_with fail
          refine (below_any c x len cap 4 _ (by omega) st4.kc).mono ?_;rintro e w6 ⟨m4,rfl,hm4,u6,k6⟩;have st6 := st4.step u6 k6;have hm : m4 = 0 \/ m4 = 1 \/ m4 = 2 \/ m4 = 3 := by have := hm4.2.1 (by omega);omega
          clear u6 k6 st4 hm4;have hn0 : (0 : Int) < (n : Int) := by omega
          have hn00 : 0 < n := by omega
          rcases hm with rfl | rfl | rfl | rfl
          · go_wp2_with fail
            have HL : Hid (∀ jn : Nat,jn < 3 -> ∃ z : Int,(#[.int .i64 (-1),.int .i64 400,.int .i64 401] : Array Value)[jn]? = some (.int .i64 z)) := fun jn h => by
              have h5 : jn = 0 \/ jn = 1 \/ jn = 2 := by omega
              rcases h5 with rfl | rfl | rfl
              · exact ⟨-1,rfl⟩
              · exact ⟨400,rfl⟩
              · exact ⟨401,rfl⟩
            have S0 : w6.drew.cell? ⟨nP,0,none⟩ = some (.slice (some ⟨g1,0,none⟩) n c1) := at_cell st6.kP 0;have S1 : w6.cell? ⟨nP,0,none⟩ = some (.slice (some ⟨g1,0,none⟩) n c1) := at_cell st6.kP 0;have M4 := heap_lt st6.kP;have N4 : ¬ nP = w6.heap.size := by omega
            go_region_law (go_simp;go_at_call 36;refine (below_any c x len cap 3 _ (by omega) (by first | exact st6.kc.drew | exact (st6.kc.alloc _).drew)).mono ?_;rintro e w5 ⟨y,rfl,hy,u5,k5⟩;have hy5 := hy.2.1 (by omega);obtain ⟨jn,rfl⟩ := Int.eq_ofNat_of_zero_le hy.1;obtain ⟨z,hz⟩ := HL.out jn (by omega);have hy6 : (0 : Int) <= (jn : Int) := (by omega);have hz2 : ∀ W : World,(W.alloc (.cells #[.int .i64 (-1),.int .i64 400,.int .i64 401] 2)).cell? ⟨W.heap.size,jn,none⟩ = some (.int .i64 z) := (fun W => (World.cell?_alloc_mark W _ _ (0,0) jn).trans hz);have U5 : Upto c w6 w5 := (by first | exact u5.undrew | exact ((Upto.refl c w6).alloc _).trans u5.undrew);(first | (have hz1 : w5.cell? ⟨w6.heap.size,jn,none⟩ = some (.int .i64 z) := (pick_cell u5.undrew st6.kc.lt jn).trans hz) | skip);have st5 := st6.step U5 k5;have S5 := at_cell st5.kP 0;have A5 := (st5.own.at1 0 hn1).1;have F5 := (st5.own.at1 0 hn1).2;have NE5 := st5.ne;have N5 : ¬ g1 = w5.heap.size := (by omega);have G5 : g1 < w5.heap.size := (by omega);have M5 := heap_lt st5.kP;have O5 : ¬ nP = w5.heap.size := (by omega);clear NE5;dsimp only)
            all_goals (try go_wp2_with fail)
            all_goals go_meet
            all_goals first | exact (st5.put1 0 z).drawn | exact ((st5.put1 0 z).alloc _).drawn
          · go_wp2_with fail
            have HL : Hid (∀ jn : Nat,jn < 3 -> ∃ z : Int,(#[.int .i64 (-1),.int .i64 999,.int .i64 1000] : Array Value)[jn]? = some (.int .i64 z)) := fun jn h => by
              have h5 : jn = 0 \/ jn = 1 \/ jn = 2 := by omega
              rcases h5 with rfl | rfl | rfl
              · exact ⟨-1,rfl⟩
              · exact ⟨999,rfl⟩
              · exact ⟨1000,rfl⟩
            have S0 : w6.drew.cell? ⟨nP,1,none⟩ = some (.slice (some ⟨g2,0,none⟩) n c2) := at_cell st6.kP 1;have S1 : w6.cell? ⟨nP,1,none⟩ = some (.slice (some ⟨g2,0,none⟩) n c2) := at_cell st6.kP 1;have M4 := heap_lt st6.kP;have N4 : ¬ nP = w6.heap.size := by omega
            go_region_law (go_simp;go_at_call 36;refine (below_any c x len cap 3 _ (by omega) (by first | exact st6.kc.drew | exact (st6.kc.alloc _).drew)).mono ?_;rintro e w5 ⟨y,rfl,hy,u5,k5⟩;have hy5 := hy.2.1 (by omega);obtain ⟨jn,rfl⟩ := Int.eq_ofNat_of_zero_le hy.1;obtain ⟨z,hz⟩ := HL.out jn (by omega);have hy6 : (0 : Int) <= (jn : Int) := (by omega);have hz2 : ∀ W : World,(W.alloc (.cells #[.int .i64 (-1),.int .i64 999,.int .i64 1000] 2)).cell? ⟨W.heap.size,jn,none⟩ = some (.int .i64 z) := (fun W => (World.cell?_alloc_mark W _ _ (0,0) jn).trans hz);have U5 : Upto c w6 w5 := (by first | exact u5.undrew | exact ((Upto.refl c w6).alloc _).trans u5.undrew);(first | (have hz1 : w5.cell? ⟨w6.heap.size,jn,none⟩ = some (.int .i64 z) := (pick_cell u5.undrew st6.kc.lt jn).trans hz) | skip);have st5 := st6.step U5 k5;have S5 := at_cell st5.kP 1;have A5 := (st5.own.at2 0 hn1).1;have F5 := (st5.own.at2 0 hn1).2;have NE5 := st5.ne;have N5 : ¬ g2 = w5.heap.size := (by omega);have G5 : g2 < w5.heap.size := (by omega);have M5 := heap_lt st5.kP;have O5 : ¬ nP = w5.heap.size := (by omega);clear NE5;dsimp only)
            all_goals (try go_wp2_with fail)
            all_goals go_meet
            all_goals first | exact (st5.put2 0 z).drawn | exact ((st5.put2 0 z).alloc _).drawn
          · have hcap : n <= c2 := by
              obtain ⟨o,cc,hv,_,_,hr⟩ := st6.own.r2;simp only [Value.slice.injEq,List.length_map] at hv;rw [List.length_map] at hr
              omega
            have a0 := at_cell st6.kP 1;have a1 := at_open st6.kP 1;by_cases hc2 : c2 = 1
            · subst hc2
              go_wp2_with fail
              go_meet
              exact st6.drawnTail hn1 _ _ _ (.inl ⟨rfl,rfl⟩)
            · have hc3 : 1 < c2 := by omega
              have hc4 : ¬ 1 = c2 := by omega
              go_wp2_with fail
              go_meet
              exact st6.drawnTail hn1 _ _ _ (.inr ⟨hc3,rfl⟩)
          · have a0 := at_cell st6.kP 0
            have a1 := at_cell st6.kP 1;have b0 := at_open st6.kP 0;have b1 := at_open st6.kP 1
            go_wp2_with fail
            go_meet
            exact st6.drawnNil
      case rest =>
        obtain ⟨o1,o2,l1,l2,k1,k2,cs',ps',kP8,kR8,r8,n1,n2,u8,kc8⟩ := hcut;have p0 := at_cell kP8 0;have p1 := at_cell kP8 1;have q0 := at_cell kR8 0;have q1 := at_cell kR8 1;have f0 := at_open kR8 0;have f1 := at_open kR8 1;have HS : Hid _ := drawn_end hlt rfl kR8 r8 ⟨n1 c (by omega),n1 _ (Nat.le_refl _)⟩ ⟨n2 c (by omega),n2 _ (Nat.le_refl _)⟩ u8 kc8
        have HN : Hid (∀ b,b <= w.heap.size -> (Value.slice o1 l1 k1).ownBlock ≠ some b /\ (Value.slice o2 l2 k2).ownBlock ≠ some b) := fun b hb => ⟨n1 b hb,n2 b hb⟩
        clear st4 r8 kP8 kR8 kc8 u8 n1 n2
        go_wp2_with fail
        exact bodyPost_ret (v := .agg #[.slice o1 l1 k1,.slice o2 l2 k2]) (by simp [results,Tryz.results91,go_sem,at_cell HS.out.1]) rfl ⟨_,_,_,_,rfl,HS.out.2.1,HN.out,HS.out.2.2⟩
def droppedAllL (s : List Int × List Int) (l : List Int) : List Int × List Int := l.foldl (fun s p => (dropped s.1 s.2 p).1) s
theorem poolOk_of {n : Nat} {cs ps : List Int} (h : Cells n cs ps) (hn : 1 <= n /\ n <= 24) (hb : ∀ k,k < n -> 0 <= cs.getD k 0 /\ cs.getD k 0 <= 400) : poolOk cs ps = true := by
  have hc := h.c;have hp := h.p;refine (poolOk_iff cs ps).2 ⟨by omega,by omega,by omega,fun j hj => (cellOk_iff _ _).2 ?_⟩;have h1 := hb j (by omega);have h2 := h.val j (by omega);exact ⟨h1.1,h1.2,h2.1,h2.2.1,h2.2.2⟩
theorem dropped_one {n : Nat} {cs ps : List Int} (h : Cells n cs ps) (hn : 1 <= n /\ n <= 24) (hb : ∀ k,k < n -> 0 <= cs.getD k 0 /\ cs.getD k 0 <= 400) (k : Nat) (hk : k < n) (h1 : 1 <= cs.getD k 0) : dropped cs ps (k : Int) = (dropOne (cs,ps) (k : Int),true) := by
  have hc := h.c
  have e : dropOne (cs,ps) (k : Int) = (cs.set k (cs.getD k 0 - 1),if cs.getD k 0 = 1 then ps.set k 0 else ps) := by
    rw [dropOne,if_pos (by omega : (0 : Int) <= (k : Int)),Int.toNat_natCast]
  rw [e,dropped,if_pos (poolOk_of h hn hb),countAt_of cs k (by omega),if_pos h1,Int.toNat_natCast]
theorem droppedAll_link {n : Nat} (hn : 1 <= n /\ n <= 24) (l : List Int) : ∀ {cs ps : List Int},Cells n cs ps -> (∀ k,k < n -> 0 <= cs.getD k 0 /\ cs.getD k 0 <= 400) -> (∀ p ∈ l,0 <= p /\ p < n) -> (∀ k,k < n -> (l.count (k : Int) : Int) <= cs.getD k 0) -> droppedAllL (cs,ps) l = dropAll (cs,ps) l := by
  induction l with
  | nil => intro cs ps _ _ _ _;rfl
  | cons p t ih =>
    intro cs ps h hb hp hc;obtain ⟨h0,hm⟩ := hp p (List.mem_cons_self ..);obtain ⟨m,rfl⟩ := Int.eq_ofNat_of_zero_le h0;have hm' : m < n := by omega
    have h1 : 1 <= cs.getD m 0 := by
      have := hc m hm';rw [List.count_cons_self] at this
      omega
    obtain ⟨c1,g1⟩ := dropOne_ok h m hm' h1
    show droppedAllL (dropped cs ps (m : Int)).1 t = dropAll (dropOne (cs,ps) (m : Int)) t
    rw [dropped_one h hn hb m hm' h1]
    show droppedAllL ((dropOne (cs,ps) (m : Int)).1,(dropOne (cs,ps) (m : Int)).2) t = dropAll ((dropOne (cs,ps) (m : Int)).1,(dropOne (cs,ps) (m : Int)).2) t
    refine ih c1 (fun k hk => ?_) (fun q hq => hp q (List.mem_cons_of_mem _ hq)) (fun k hk => ?_)
    · have := hb k hk
      rw [g1]
      split
      · rename_i e;subst e;omega
      · exact this
    · have := hc k hk
      rw [List.count_cons] at this;rw [g1];by_cases ek : m = k
      · subst ek;rw [if_pos rfl];rw [beq_self_eq_true,if_pos rfl] at this;omega
      · rw [if_neg ek]
        have hne : ((m : Int) == (k : Int)) = false := by rw [beq_eq_false_iff_ne];omega
        rw [hne,if_neg (by decide)] at this
        omega
theorem dropAll_filter (l : List Int) : ∀ s : List Int × List Int,dropAll s (l.filter (fun p => decide (0 <= p))) = dropAll s l := by
  induction l with
  | nil => intro s;rfl
  | cons p t ih =>
    intro s;by_cases h0 : 0 <= p
    · rw [List.filter_cons_of_pos (by simpa using h0)]
      exact ih (dropOne s p)
    · rw [List.filter_cons_of_neg (by simpa using h0)]
      have e : dropAll s (p :: t) = dropAll (dropOne s p) t := rfl;rw [e,ih,dropOne,if_neg h0]
theorem ShInv.bound {s : Sf} (h : ShInv s) : ∀ k,k < s.cs.length -> 0 <= s.cs.getD k 0 /\ s.cs.getD k 0 <= 96 := fun k hk => by
  rw [h.cnt k hk];have h5 := cntAll_le s.bs (k : Int);have h6 := cntAll_nonneg s.bs (k : Int);have h7 := h.few
  omega
theorem ShInv.bound4 {s : Sf} (h : ShInv s) : ∀ k,k < s.cs.length -> 0 <= s.cs.getD k 0 /\ s.cs.getD k 0 <= 400 := fun k hk => by
  have := h.bound k hk
  omega
theorem ShInv.poolOk {s : Sf} (h : ShInv s) : poolOk s.cs s.ps = true := poolOk_of h.cells h.n1 h.bound4
theorem ShInv.mapOk {s : Sf} (h : ShInv s) (i : Nat) (hi : i < s.bs.length) : mapOk s.bs[i].rs = true := (book_parts (h.oks _ (List.getElem_mem hi))).2.2.2.1
theorem ShInv.part {s : Sf} (h : ShInv s) (i : Nat) (hi : i < s.bs.length) (n : Nat) : droppedAllL (s.cs,s.ps) (((pages s.bs[i].rs).drop n).filter (fun p => decide (0 <= p))) = dropAll (s.cs,s.ps) ((pages s.bs[i].rs).drop n) := by
  have hcn := h.cells.c;rw [droppedAll_link h.n1 _ h.cells h.bound4 (fun p hp => ?_) (fun k hk => ?_),dropAll_filter]
  · obtain ⟨h1,h2⟩ := List.mem_filter.1 hp
    have h3 : 0 <= p := by simpa using h2
    exact ⟨h3,(h.page i hi p (List.mem_of_mem_drop h1) h3).1⟩
  · have h1 := cnt_le_cs h i hi k hk
    unfold Pb.cnt at h1;have h2 := (List.drop_sublist n (pages s.bs[i].rs)).count_le (k : Int)
    have h3 := ((List.filter_sublist (l := (pages s.bs[i].rs).drop n) (p := fun p => decide (0 <= p))).count_le (k : Int))
    omega
theorem ShInv.whole {s : Sf} (h : ShInv s) (i : Nat) (hi : i < s.bs.length) : droppedAllL (s.cs,s.ps) (pagesOf s.bs[i].rs) = dropAll (s.cs,s.ps) ((pages s.bs[i].rs).drop 0) := by
  rw [<- h.part i hi 0,List.drop_zero,pagesOf,if_pos (h.mapOk i hi)]
structure OpIn (s : Sf) (o : Oq) (i : Nat) : Prop where
  inv : ShInv s
  ok : opOk o = true
  ref : refused s.bs o = 0
  lt : i < s.bs.length
  at_ : findP s.bs o.nm = i
theorem OpIn.book {s : Sf} {o : Oq} {i : Nat} (h : OpIn s o i) : bookAt s.bs (findP s.bs o.nm) = s.bs[i]'h.lt := by rw [h.at_,bookAt_of s.bs i h.lt]
theorem OpIn.place {s : Sf} {o : Oq} {i : Nat} (h : OpIn s o i) (h1 : o.k ≠ 1) (ha : kAt o.k = true) : (0 <= o.at_ /\ o.at_ < 16) /\ o.at_ < (s.bs[i]'h.lt).sz := by
  have h2 := (refused_parts h.ref).2.2.2.1 h1 ha;rw [h.book] at h2;have h3 := (book_parts (h.inv.oks _ (List.getElem_mem h.lt))).2.1;have h4 := (op_parts h.ok).2.2.2.1
  omega
def cmpI (a b : ByteArray) : Int := Lib.compareBytes a.data.toList b.data.toList
theorem cmp_less : ∀ (x y : List UInt8),Lib.compareBytes x y < 0 ↔ Op.bytesLess x y = true := by
  intro x
  induction x with
  | nil =>
    intro y
    cases y with
    | nil => simp [Lib.compareBytes,Op.bytesLess]
    | cons b u => simp [Lib.compareBytes,Op.bytesLess]
  | cons a t ih =>
    intro y
    cases y with
    | nil => simp [Lib.compareBytes,Op.bytesLess]
    | cons b u =>
      simp only [Lib.compareBytes,Op.bytesLess,Bool.or_eq_true,decide_eq_true_eq,Bool.and_eq_true,beq_iff_eq];by_cases h1 : a < b
      · simp [h1]
      · by_cases h2 : b < a
        · have hne : a ≠ b := fun e => by subst e;exact UInt8.lt_irrefl a h2
          simp [h1,h2,hne]
        · have he : a = b := UInt8.le_antisymm (UInt8.not_lt.1 h2) (UInt8.not_lt.1 h1)
          subst he;simp [ih u]
theorem cmpI_neg (a b : ByteArray) : cmpI a b < 0 ↔ ltB a b = true := by
  rw [cmpI,cmp_less,ltB,ByteArray.toList_eq,ByteArray.toList_eq]
set_option maxHeartbeats 1000000 in
theorem cmpString_any (a b : ByteArray) (w : World) :
    Calls Tryz.prog 174 #[.string a,.string b] w fun e w' => e = .returned (.int .i64 (cmpI a b)) /\ w' = w := by
  go_enter Tryz.func174,Tryz.ntmps174
  go_wp2
  rw [run_callFunc_extern Tryz.func180 (by kernel_rfl) (by kernel_rfl) (by kernel_rfl) (e := Extern.BytealgCompare.compare) (by kernel_rfl),Lib.run_compareString];simp only [Result.andThen];rw [Oper.upon_value]
  go_wp2
  go_ret;exact ⟨rfl,rfl⟩
theorem compare_any (a b : ByteArray) (w : World) :
    Calls Tryz.prog 157 #[.string a,.string b] w fun e w' => e = .returned (.int .i64 (cmpI a b)) /\ w' = w := by
  go_enter Tryz.func157,Tryz.ntmps157
  go_wp2_with (go_at_call 174;refine (cmpString_any _ _ _).mono ?_;rintro e w' ⟨rfl,rfl⟩)
  go_ret;exact ⟨rfl,rfl⟩
theorem len64_any (n : Nat) (h : n <= 7) (w : World) :
    Calls Tryz.prog 173 #[.int .u64 n] w fun e w' => ∃ r : Int,e = .returned (.int .i64 r) /\ w' = w := by
  have hn : n = 0 \/ n = 1 \/ n = 2 \/ n = 3 \/ n = 4 \/ n = 5 \/ n = 6 \/ n = 7 := by omega
  rcases hn with rfl | rfl | rfl | rfl | rfl | rfl | rfl | rfl
  all_goals
    go_enter Tryz.func173,Tryz.ntmps173
    go_wp2
    go_ret;exact ⟨_,rfl,rfl⟩
theorem len_any (n : Nat) (h : n <= 7) (w : World) :
    Calls Tryz.prog 156 #[.int .u64 n] w fun e w' => ∃ r : Int,e = .returned (.int .i64 r) /\ w' = w := by
  go_enter Tryz.func156,Tryz.ntmps156
  go_wp2_with fail
  refine (len64_any n h _).mono ?_;rintro e w' ⟨r,rfl,rfl⟩
  go_wp2_with fail
  go_ret;exact ⟨r,rfl,rfl⟩
end Go.Proofs.YtcefcglonooelaaGreatDoor
