import Derived.Deep.RegionHeld3
import Derived.Deep.RegionLaw
import Derived.Test.YtmnhnhjefocicaaGreatDoorM07
import Derived.Test.YtmnhnhjefocicaaGreatDoorM10
namespace Go.Proofs.YtmnhnhjefocicaaGreatDoor
open Go.RowKit
set_option linter.unusedVariables false
set_option maxRecDepth 100000
structure OwnP (base : Nat) (w : World) (v1 v2 : Value) (cs ps : List Int) : Prop where
  c : w.ownsRow base 2 1 v1 cs.length (cs.map (Value.int .i64))
  p : w.ownsRow base 2 1 v2 ps.length (ps.map (Value.int .i64))
  apart : ∀ g,v1.ownBlock = some g -> v2.ownBlock ≠ some g
theorem OwnP.below {base : Nat} {w w' : World} {v1 v2 : Value} {cs ps : List Int} (h : OwnP base w v1 v2 cs ps) (b : Below w.heap.size w w') : OwnP base w' v1 v2 cs ps := ⟨owns_below h.c b,owns_below h.p b,h.apart⟩
theorem OwnP.mono {base base' : Nat} {w : World} {v1 v2 : Value} {cs ps : List Int} (h : OwnP base w v1 v2 cs ps) (b : base' <= base) : OwnP base' w v1 v2 cs ps := ⟨owns_mono h.c b,owns_mono h.p b,h.apart⟩
theorem OwnP.upto {base c : Nat} {w w' : World} {v1 v2 : Value} {cs ps : List Int} (h : OwnP base w v1 v2 cs ps) (u : Upto c w w') (hc : c < base) : OwnP base w' v1 v2 cs ps := ⟨ownsRow_upto h.c u hc,ownsRow_upto h.p u hc,h.apart⟩
theorem OwnP.r1 {base : Nat} {w : World} {v1 v2 : Value} {cs ps : List Int} (h : OwnP base w v1 v2 cs ps) : Reads w.heap.size w v1 (cs.map (Value.int .i64)) := Reads.of_own h.c
theorem OwnP.r2 {base : Nat} {w : World} {v1 v2 : Value} {cs ps : List Int} (h : OwnP base w v1 v2 cs ps) : Reads w.heap.size w v2 (ps.map (Value.int .i64)) := Reads.of_own h.p
theorem OwnP.nil (base : Nat) (w : World) : OwnP base w (.slice none 0 0) (.slice none 0 0) [] [] := ⟨owns_nil _ _ _ _,owns_nil _ _ _ _,fun g h => by cases h⟩
theorem pool_start (w : World) (v1 v2 : Value) : ∃ W0,W0 = (w.alloc (.cells #[v1,v2] 39)).alloc (.cells #[.slice none 0 0,.slice none 0 0] 39) /\
    W0.heap[w.heap.size]? = some (.cells #[v1,v2] 39 (0,0)) /\ W0.heap[w.heap.size + 1]? = some (.cells #[.slice none 0 0,.slice none 0 0] 39 (0,0)) /\ Below w.heap.size w W0 /\ W0.heap.size = w.heap.size + 1 + 1 := by
  have s1 : (w.alloc (.cells #[v1,v2] 39)).heap.size = w.heap.size + 1 := by simp
  have a1 := heap_alloc_new w (.cells #[v1,v2] 39);have a2 := heap_alloc_new (w.alloc (.cells #[v1,v2] 39)) (.cells #[.slice none 0 0,.slice none 0 0] 39);rw [s1] at a2;exact ⟨_,rfl,(Below.heap_alloc _ _ _ (by rw [s1];omega)).trans a1,a2,bw_alloc (bw_alloc (Below.refl _ _)),by simp⟩
theorem pool_end (w W : World) (u1 u2 x y : Value) (b : Nat) (cs ps : List Int) (hb : w.heap.size <= b) (k : W.heap[b]? = some (.cells #[x,y] 39 (0,0))) (own : OwnP (b + 1) W u1 u2 cs ps) (d : Below w.heap.size w W) :
    ((W.setCell ⟨b,0,none⟩ u1).setCell ⟨b,1,none⟩ u2).heap[b]? = some (.cells #[u1,u2] 39 (0,0)) /\ OwnP w.heap.size ((W.setCell ⟨b,0,none⟩ u1).setCell ⟨b,1,none⟩ u2) u1 u2 cs ps /\ Below w.heap.size w ((W.setCell ⟨b,0,none⟩ u1).setCell ⟨b,1,none⟩ u2) := by
  obtain ⟨h1,h2⟩ := set_two k u1 u2;exact ⟨h1,(own.upto h2 (by omega)).mono (by omega),d.trans (h2.toBelow d.size (by omega))⟩
theorem pair_end {w W0 w5 w6 : World} {v5 v6 : Value} {cs ps : List Int} (d0 : Below w.heap.size w W0) (z0 : W0.heap.size = w.heap.size + 1 + 1) (own5 : w5.ownsRow W0.drew.heap.size 2 1 v5 cs.length (cs.map (Value.int .i64))) (b5 : Below W0.drew.heap.size W0.drew w5)
    (own6 : w6.ownsRow w5.heap.size 2 1 v6 ps.length (ps.map (Value.int .i64))) (b6 : Below w5.heap.size w5 w6) {x y : Value} (k : w6.heap[w.heap.size + 1]? = some (.cells #[x,y] 39 (0,0))) :
    ((w6.setCell ⟨w.heap.size + 1,0,none⟩ v5).setCell ⟨w.heap.size + 1,1,none⟩ v6).heap[w.heap.size + 1]? = some (.cells #[v5,v6] 39 (0,0)) /\ OwnP w.heap.size ((w6.setCell ⟨w.heap.size + 1,0,none⟩ v5).setCell ⟨w.heap.size + 1,1,none⟩ v6) v5 v6 cs ps /\ Below w.heap.size w ((w6.setCell ⟨w.heap.size + 1,0,none⟩ v5).setCell ⟨w.heap.size + 1,1,none⟩ v6) := by
  have hz : W0.drew.heap.size = w.heap.size + 1 + 1 := z0;have h5 := b5.size;refine pool_end w w6 v5 v6 x y (w.heap.size + 1) cs ps (by omega) k ⟨owns_mono (owns_below own5 b6) (by omega),owns_mono own6 (by omega),fun g h1 h2 => ?_⟩ (bw_call (bw_call (bw_drew d0) b5) b6);have := (own5.lt g h1).2;have := (own6.lt g h2).1
  omega
theorem l1Copy_any (v : Value) (xs : List Int) (w : World) (hn : xs.length <= 1048576) (h : Reads w.heap.size w v (xs.map (Value.int .i64))) :
    Calls Tryz.prog 102 #[v] w fun e w' => ∃ v' : Value,e = .returned v' /\ w'.ownsRow w.heap.size 2 1 v' xs.length (xs.map (Value.int .i64)) /\ v' ≠ .slice none 0 0 /\ Below w.heap.size w w' := by
  obtain ⟨i0,hi,hz0,hz1,hz2⟩ := info_parts Tryz.infoI64;obtain ⟨o,cap,rfl,hm,hc,-⟩ := h;have hl : (xs.map (Value.int .i64)).length = xs.length := by simp
  rw [hl] at hm ⊢;have own0 : (w.alloc (.cells #[] 2)).ownsRow w.heap.size 2 1 (.slice (some ⟨w.heap.size,0,none⟩) 0 0) 0 [] := World.ownsRow_lit w #[] 0 (Nat.le_refl _) (Nat.zero_le _) rfl;have d0 : Below w.heap.size w (w.alloc (.cells #[] 2)) := bw_alloc (Below.refl _ _)
  have HC : Hid (∀ j u,(xs.map (Value.int .i64))[j]? = some u -> ∃ g off,o = some ⟨g,off,none⟩ /\ (w.alloc (.cells #[] 2)).cell? ⟨g,off + j,none⟩ = some u) := fun j u hj => by
    obtain ⟨g,off,e,hg,hx⟩ := hc j u hj;exact ⟨g,off,e,(d0.cell (p := ⟨g,off + j,none⟩) hg).trans hx⟩
  clear hc hl
  go_enter Tryz.func102,Tryz.ntmps102
  go_wp2_with (at_builtin;refine wpList_append_reads rfl _ _ 37 rfl w.heap.size 2 i0 (.int .i64 0) 1 8 Tryz.underlying37 hi hz0 hz1 hz2 rfl (by decide) _ 0 [] rfl own0 o xs.length cap (xs.map (Value.int .i64)) rfl ?c0 HC.out ?c2 ?c3 ?c4 ?c5 ?_)
  case c0 => simp
  case c2 => intro u hu;simp at hu;obtain ⟨a,_,rfl⟩ := hu;rfl
  case c3 => unfold maxLen;omega
  case c4 => omega
  case c5 => simp
  intro v' w' hown hgrow hnil;have hown2 : w'.ownsRow w.heap.size 2 1 v' xs.length (xs.map (Value.int .i64)) := by simpa using hown
  have hnn : v' ≠ .slice none 0 0 := hnil;have hb : Below w.heap.size w w' := d0.grown hgrow (by simp) (fun q hq => (own0.lt q hq).1);clear hown hgrow hnil own0 d0 HC
  go_wp2_with fail
  go_ret;exact ⟨v',rfl,hown2,hnn,hb⟩
set_option maxHeartbeats 1600000 in
theorem l4Copy_any (v1 v2 : Value) (cs ps : List Int) (w : World) (hc : cs.length <= 1048576) (hp : ps.length <= 1048576) (h1 : Reads w.heap.size w v1 (cs.map (Value.int .i64))) (h2 : Reads w.heap.size w v2 (ps.map (Value.int .i64))) :
    Calls Tryz.prog 119 #[.agg #[v1,v2]] w fun e w' => ∃ u1 u2 : Value,e = .returned (.agg #[u1,u2]) /\ OwnP w.heap.size w' u1 u2 cs ps /\ Below w.heap.size w w' := by
  obtain ⟨W0,hW0,k0,k1,d0,z0⟩ := pool_start w v1 v2;have r1 : Reads W0.drew.heap.size W0.drew v1 (cs.map (Value.int .i64)) := ((h1.below d0).mono d0.size).below ((Below.refl _ _).drew);have r2 : Reads W0.drew.heap.size W0.drew v2 (ps.map (Value.int .i64)) := ((h2.below d0).mono d0.size).below ((Below.refl _ _).drew)
  have S0 : W0.drew.cell? ⟨w.heap.size,0,none⟩ = some v1 /\ W0.drew.cell? ⟨w.heap.size,1,none⟩ = some v2 := ⟨at_cell k0 0,at_cell k0 1⟩
  have HW0 : Hid (W0 = _) := hW0;clear hW0 h1 h2
  go_enter Tryz.func119,Tryz.ntmps119
  go_wp2_with fail
  rw [<- HW0.out];clear HW0;obtain ⟨S00,S01⟩ := S0
  go_region_law (go_simp;go_at_call 102;first
      | (have q25 := r25;clear q25;refine (l1Copy_any v2 ps _ hp r25).mono ?_;rintro e w6 ⟨v6,rfl,own6,hn6,b6⟩;obtain ⟨o6,c6,rfl⟩ := own_slice own6;have k60 := (b6.block _ (heap_lt k50)).trans k50;have k61 := (b6.block _ (heap_lt k51)).trans k51;have S60 := at_cell k60 0;have S61 := at_cell k60 1;have q0 := at_cell k61 0;have q1 := at_cell k61 1;have f0 := at_open k61 0;have f1 := at_open k61 1;dsimp only)
      | (refine (l1Copy_any v1 cs _ hc r1).mono ?_;rintro e w5 ⟨v5,rfl,own5,hn5,b5⟩;obtain ⟨o5,c5,rfl⟩ := own_slice own5;have k50 := (b5.block _ (show w.heap.size < W0.heap.size by omega)).trans k0;have k51 := (b5.block _ (show w.heap.size + 1 < W0.heap.size by omega)).trans k1;have S50 := at_cell k50 0;have S51 := at_cell k50 1;have r25 := (r2.below b5).mono b5.size;dsimp only))
  all_goals
    have HS : Hid _ := pair_end d0 z0 own5 b5 own6 b6 k61;clear own5 own6 b5 b6 k50 k51 k60 k61 S50 S51 S60 S61 q0 q1 f0 f1 r25 r1 r2 S00 S01 k0 k1 hn5 hn6
    go_wp2_with fail
    exact bodyPost_ret (v := .agg #[.slice o5 cs.length c5,.slice o6 ps.length c6]) (by simp [results,Tryz.results119,go_sem,at_cell HS.out.1]) rfl ⟨_,_,rfl,HS.out.2⟩
structure RP (B : Nat) (w : World) (v1 v2 : Value) (cs ps : List Int) : Prop where
  c : Reads B w v1 (cs.map (Value.int .i64))
  p : Reads B w v2 (ps.map (Value.int .i64))
theorem RP.below {B : Nat} {w w' : World} {v1 v2 : Value} {cs ps : List Int} (h : RP B w v1 v2 cs ps) (k : Below B w w') : RP B w' v1 v2 cs ps := ⟨h.c.below k,h.p.below k⟩
theorem RP.mono {B B' : Nat} {w : World} {v1 v2 : Value} {cs ps : List Int} (h : RP B w v1 v2 cs ps) (k : B <= B') : RP B' w v1 v2 cs ps := ⟨h.c.mono k,h.p.mono k⟩
theorem RP.of {B : Nat} {W : World} {v1 v2 : Value} {cs ps : List Int} (h : RP B W v1 v2 cs ps) (y : B <= W.heap.size) (p : BelowOf W) : RP p.w'.heap.size p.w' v1 v2 cs ps := ((h.mono y).below p.h).mono p.h.size
theorem RP.forms {B : Nat} {w : World} {v1 v2 : Value} {cs ps : List Int} (h : RP B w v1 v2 cs ps) : ∃ o1 k1 o2 k2,v1 = .slice o1 cs.length k1 /\ v2 = .slice o2 ps.length k2 := by
  obtain ⟨⟨o,k,e,-⟩,⟨o',k',e',-⟩⟩ := h;exact ⟨o,k,o',k',by rw [e,List.length_map],by rw [e',List.length_map]⟩
theorem OwnP.reads {base : Nat} {w : World} {v1 v2 : Value} {cs ps : List Int} (h : OwnP base w v1 v2 cs ps) : RP w.heap.size w v1 v2 cs ps := ⟨h.r1,h.r2⟩
theorem OwnP.rng {lo hi base : Nat} {w w' : World} {v1 v2 : Value} {cs ps : List Int} (h : OwnP base w v1 v2 cs ps) (k : Rng lo hi w w') (hb : hi <= base) : OwnP base w' v1 v2 cs ps := ⟨own_rng h.c k hb,own_rng h.p k hb,h.apart⟩
theorem OwnP.span {base : Nat} {w : World} {v1 v2 : Value} {cs ps : List Int} (h : OwnP base w v1 v2 cs ps) : ∀ g,(v1.ownBlock = some g \/ v2.ownBlock = some g) -> base <= g /\ g < w.heap.size := by
  rintro g (h1 | h1)
  · exact h.c.lt g h1
  · exact h.p.lt g h1
theorem OwnP.forms {base : Nat} {w : World} {v1 v2 : Value} {cs ps : List Int} (h : OwnP base w v1 v2 cs ps) : ∃ o1 c1 o2 c2,v1 = .slice o1 cs.length c1 /\ v2 = .slice o2 ps.length c2 := by
  obtain ⟨o1,c1,h1⟩ := own_slice h.c;obtain ⟨o2,c2,h2⟩ := own_slice h.p;exact ⟨o1,c1,o2,c2,h1,h2⟩
theorem szPool_any (v1 v2 : Value) (cs ps : List Int) (left : Int) (w : World) (h0 : 0 <= left) (hl : left <= 1048576) (r : RP w.heap.size w v1 v2 cs ps) :
    Calls Tryz.prog 69 #[.agg #[v1,v2],.int .i64 left] w fun e w' => ∃ q : Int,e = .returned (.int .i64 q) /\ (q = -1 \/ (0 <= q /\ q <= left /\ cs.length <= 1048576 /\ ps.length <= 1048576)) /\ Below w.heap.size w w' := by
  obtain ⟨h1,h2⟩ := r;obtain ⟨o1,cap1,rfl,m1,-,-⟩ := h1;obtain ⟨o2,cap2,rfl,m2,-,-⟩ := h2;simp only [List.length_map] at m1 m2 ⊢;obtain ⟨W0,hW0,k0,d0,z0⟩ := pool_box w (.slice o1 cs.length cap1) (.slice o2 ps.length cap2) 53;have HW0 : Hid (W0 = _) := hW0;have p0 := at_cell k0 0;have p1 := at_cell k0 1;clear hW0 k0
  go_enter Tryz.func69,Tryz.ntmps69
  go_wp2_with fail
  rw [<- HW0.out];clear HW0;refine (szInts_any _ _ _ _ _ h0 hl m1).mono ?_;rintro e w' ⟨rfl,rfl⟩;by_cases hb : left < (cs.length : Int)
  · rw [if_pos hb]
    go_wp2_with fail
    go_ret;exact ⟨-1,rfl,.inl rfl,d0⟩
  · rw [if_neg hb]
    have hl1 : 0 <= left - (cs.length : Int) := by omega
    have hl2 : left - (cs.length : Int) <= 1048576 := by omega
    go_wp2_with fail
    refine (szInts_any _ _ _ _ _ hl1 hl2 m2).mono ?_;rintro e w' ⟨rfl,rfl⟩;by_cases hb2 : left - (cs.length : Int) < (ps.length : Int)
    · rw [if_pos hb2]
      go_wp2_with fail
      go_ret;exact ⟨-1,rfl,.inl rfl,d0⟩
    · rw [if_neg hb2]
      have hl3 : 0 <= left - (cs.length : Int) - (ps.length : Int) := by omega
      go_wp2_with fail
      go_ret;exact ⟨_,rfl,.inr ⟨hl3,by omega,by omega,by omega⟩,d0⟩
set_option maxHeartbeats 800000 in
theorem toPool_any (v1 v2 : Value) (cs ps : List Int) (w : World) (hc : cs.length <= 1048576) (hp : ps.length <= 1048576) (r : RP w.heap.size w v1 v2 cs ps) :
    Calls Tryz.prog 71 #[.agg #[v1,v2]] w fun e w' => ∃ u1 u2 : Value,e = .returned (.agg #[u1,u2]) /\ OwnP w.heap.size w' u1 u2 cs ps /\ Below w.heap.size w w' := by
  obtain ⟨W0,hW0,k0,k1,k2,d0,z0⟩ := box3 w #[v1,v2] #[.slice none 0 0,.slice none 0 0] #[.slice none 0 0,.slice none 0 0] 53 39 39;have r0 := r.below d0;have HW0 : Hid (W0 = _) := hW0;have z0a : w.heap.size + 1 + 1 + 1 <= W0.heap.size := by omega
  clear hW0 r z0
  go_enter Tryz.func71,Tryz.ntmps71
  go_wp2_with fail
  rw [<- HW0.out];clear HW0;refine (toInts_any v1 cs _ hc (r0.c.mono d0.size)).mono ?_;rintro e w1 ⟨rfl,own1,b1⟩;replace k0 := (b1.block _ (by omega)).trans k0;replace k1 := (b1.block _ (by omega)).trans k1;replace k2 := (b1.block _ (by omega)).trans k2;have z1 := b1.size;replace d0 := bw_call d0 b1;replace r0 := r0.below (b1.mono (by omega));have f0 := at_open k2 0;have c0 := at_cell k2 0;have u : Upto (w.heap.size + 1 + 1) w1 (w1.setCell ⟨w.heap.size + 1 + 1,0,none⟩ (.slice (some ⟨W0.heap.size,0,none⟩) cs.length cs.length)) := (Upto.refl _ _).setCell ⟨w.heap.size + 1 + 1,0,none⟩ (.inl rfl) _;have k3 := set_0 k2 (.slice (some ⟨W0.heap.size,0,none⟩) cs.length cs.length);replace k0 := (u.block _ (by omega) (by omega)).trans k0;replace k1 := (u.block _ (by omega) (by omega)).trans k1;replace own1 := ownsRow_upto own1 u (by omega);replace d0 := d0.trans (u.toBelow (by omega) (by omega));replace r0 := r0.below (u.toBelow (by omega) (by omega));have z2 := u.size;have p1 := at_cell k0 1;clear b1 u k2
  go_wp2_with fail
  generalize w1.setCell ⟨w.heap.size + 1 + 1,0,none⟩ (.slice (some ⟨W0.heap.size,0,none⟩) cs.length cs.length) = w2 at *;clear f0 c0 p1;refine (toInts_any v2 ps _ hp (r0.p.mono (by omega))).mono ?_;rintro e w3 ⟨rfl,own3,b3⟩;replace k1 := (b3.block _ (by omega)).trans k1;replace k3 := (b3.block _ (by omega)).trans k3;have own13 := owns_below own1 b3;have z3 := b3.size;have hlt : W0.heap.size < w2.heap.size := (own1.lt _ rfl).2;replace d0 := bw_call d0 b3;clear own1 k0;have f0 := at_open k3 1;have c0 := at_cell k3 1;have c00 := at_cell k3 0;have u : Upto (w.heap.size + 1 + 1) w3 (w3.setCell ⟨w.heap.size + 1 + 1,1,none⟩ (.slice (some ⟨w2.heap.size,0,none⟩) ps.length ps.length)) := (Upto.refl _ _).setCell ⟨w.heap.size + 1 + 1,1,none⟩ (.inl rfl) _;have k4 := set_1 k3 (.slice (some ⟨w2.heap.size,0,none⟩) ps.length ps.length);replace k1 := (u.block _ (by omega) (by omega)).trans k1;replace own13 := ownsRow_upto own13 u (by omega);replace own3 := ownsRow_upto own3 u (by omega);replace d0 := d0.trans (u.toBelow (by omega) (by omega));have q0 := at_cell k1 0;have q1 := at_cell k1 1;have g0 := at_open k1 0;have g1 := at_open k1 1;have a0 := at_cell k4 0;have a1 := at_cell k4 1;have HS : Hid _ := pool_end w _ _ _ _ _ (w.heap.size + 1) cs ps (by omega) k1 ⟨owns_mono own13 (by omega),owns_mono own3 (by omega),fun g h1 h2 => by simp [Value.ownBlock] at h1 h2;omega⟩ d0;clear b3 u k1 k3 k4 own13 own3 d0 r0
  go_wp2_with fail
  exact bodyPost_ret (v := .agg #[.slice (some ⟨W0.heap.size,0,none⟩) cs.length cs.length,.slice (some ⟨w2.heap.size,0,none⟩) ps.length ps.length]) (by simp [results,Tryz.results71,go_sem,at_cell HS.out.1]) rfl ⟨_,_,rfl,HS.out.2⟩
set_option maxHeartbeats 800000 in
theorem eqPool_any (a1 a2 b1 b2 : Value) (cs ps cs' ps' : List Int) (w : World) (r : RP w.heap.size w a1 a2 cs ps) (r' : RP w.heap.size w b1 b2 cs' ps') :
    Calls Tryz.prog 76 #[.agg #[a1,a2],.agg #[b1,b2]] w fun e w' => e = .returned (.bool (decide (cs = cs') && decide (ps = ps'))) /\ Below w.heap.size w w' := by
  obtain ⟨W0,hW0,k0,k1,d0,z0⟩ := box2 w #[a1,a2] #[b1,b2] 39 39;have r0 := (r.below d0).mono d0.size;have r1 := (r'.below d0).mono d0.size;have HW0 : Hid (W0 = _) := hW0;clear hW0 r r'
  go_enter Tryz.func76,Tryz.ntmps76
  go_wp2_with fail
  rw [<- HW0.out];clear HW0;refine (eqInts_any a1 b1 cs cs' _ r0.c r1.c).mono ?_;rintro e w1 ⟨rfl,b⟩;replace k0 := (b.block _ (by omega)).trans k0;replace k1 := (b.block _ (by omega)).trans k1;replace d0 := bw_call d0 b;replace r0 := (r0.below b).mono b.size;replace r1 := (r1.below b).mono b.size;have p0 := at_cell k0 1;have p1 := at_cell k1 1;by_cases hc : cs = cs'
  · rw [decide_eq_true hc]
    go_wp2_with fail
    refine (eqInts_any a2 b2 ps ps' _ r0.p r1.p).mono ?_;rintro e w2 ⟨rfl,b2'⟩;replace d0 := bw_call d0 b2';by_cases hp : ps = ps'
    · rw [decide_eq_true hp]
      have HC : Hid (cs = cs') := hc;have HP : Hid (ps = ps') := hp;clear hc hp
      go_wp2_with fail
      go_ret;exact ⟨ret_bool (by simp [HC.out,HP.out]),d0⟩
    · rw [decide_eq_false hp]
      have HP : Hid (¬ ps = ps') := hp;clear hc hp
      go_wp2_with fail
      go_ret;exact ⟨ret_bool (by rw [decide_eq_false HP.out,Bool.and_false]),d0⟩
  · rw [decide_eq_false hc]
    have HP : Hid (¬ cs = cs') := hc;clear hc
    go_wp2_with fail
    go_ret;exact ⟨ret_bool (by rw [decide_eq_false HP.out,Bool.false_and]),d0⟩
set_option maxHeartbeats 800000 in
theorem heldPool_any (v1 v2 : Value) (n m : Nat) (k : Int) (w : World) (hk : 0 <= k) (hk2 : k <= 1073741824) (hn : n <= 1048576) (hm : m <= 1048576) (r : RP w.heap.size w v1 v2 (marksI k n) (marksI (k + n) m)) :
    Calls Tryz.prog 80 #[.agg #[v1,v2],.int .i64 k] w fun e w' => e = .returned (.int .i64 (k + n + m)) /\ Below w.heap.size w w' := by
  obtain ⟨W0,hW0,k0,d0,z0⟩ := box1 w #[v1,v2] 39;have r0 := (r.below d0).mono d0.size;have HW0 : Hid (W0 = _) := hW0;clear hW0 r
  go_enter Tryz.func80,Tryz.ntmps80
  go_wp2_with fail
  rw [<- HW0.out];clear HW0;refine (heldI_any v1 n k _ hk (by omega) r0.c).mono ?_;rintro e w1 ⟨rfl,b⟩;replace k0 := (b.block _ (by omega)).trans k0;replace d0 := bw_call d0 b;replace r0 := (r0.below b).mono b.size;have p1 := at_cell k0 1;have h1 : 0 <= k + (n : Int) := by omega
  go_wp2_with fail
  refine (heldI_any v2 m (k + n) _ h1 (by omega) r0.p).mono ?_;rintro e w2 ⟨rfl,b'⟩;replace d0 := bw_call d0 b';have h2 : 0 <= k + (n : Int) + (m : Int) := by omega
  go_wp2_with fail
  go_ret;exact ⟨rfl,d0⟩
theorem cnt_empty (nm : ByteArray) (sz : Int) (fx : Bool) (ep : Int) (k : Nat) : (⟨nm,sz,[],fx,ep⟩ : Pb).cnt (k : Int) = 0 := by
  show (((List.replicate 16 (-1 : Int)).count (k : Int) : Nat) : Int) = 0
  rw [List.count_replicate,if_neg (by rw [beq_iff_eq];omega)]
  rfl
theorem cnt_out {s : Sf} (h : ShInv s) (i : Nat) (hi : i < s.bs.length) (k : Nat) (h1 : s.cs.length <= k) (h2 : k < 24) : s.bs[i].cnt (k : Int) = 0 := by
  have := cntAll_at s.bs i hi (k : Int);have := cnt_nonneg s.bs[i] (k : Int);have := h.out k h1 h2
  omega
theorem ShInv.put {s : Sf} (h : ShInv s) (i : Nat) (hi : i < s.bs.length) (b : Pb) (hok : b.ok = true) (hn : b.nm = s.bs[i].nm) (cs ps : List Int) (hc : Cells s.cs.length cs ps)
    (hcnt : ∀ k,k < s.cs.length -> cs.getD k 0 = s.cs.getD k 0 - s.bs[i].cnt (k : Int) + b.cnt (k : Int)) (hout : ∀ k,s.cs.length <= k -> k < 24 -> b.cnt (k : Int) = 0) : ShInv ⟨cs,ps,s.bs.set i b⟩ := by
  have hl := hc.c;refine ⟨by simp only;rw [hl];exact h.n1,by simp only;rw [hl];exact hc,by simpa using h.few,fun x hx => ?_,?_,fun k hk => ?_,fun k hk hk2 => ?_⟩
  · rcases List.mem_or_eq_of_mem_set hx with hx | rfl
    · exact h.oks x hx
    · exact hok
  · simp only
    rw [List.map_set,hn]
    have : (s.bs.map Pb.nm).set i s.bs[i].nm = s.bs.map Pb.nm := by
      have e : s.bs[i].nm = (s.bs.map Pb.nm)[i]'(by simpa using hi) := by simp
      rw [e,List.set_getElem_self]
    rw [this];exact h.srt
  · simp only at hk ⊢
    rw [hl] at hk;rw [hcnt k hk,cntAll_set s.bs i hi,h.cnt k hk]
  · simp only at hk ⊢
    rw [hl] at hk;rw [cntAll_set s.bs i hi,h.out k hk hk2,cnt_out h i hi k hk hk2,hout k hk hk2]
    rfl
theorem ShInv.insert {s : Sf} (h : ShInv s) (b : Pb) (hok : b.ok = true) (hn : findP s.bs b.nm < 0) (hf : s.bs.length < 6) (cs : List Int) (hc : Cells s.cs.length cs s.ps)
    (hcnt : ∀ k,k < s.cs.length -> cs.getD k 0 = s.cs.getD k 0 + b.cnt (k : Int)) (hout : ∀ k,s.cs.length <= k -> k < 24 -> b.cnt (k : Int) = 0) : ShInv ⟨cs,s.ps,insertP s.bs b⟩ := by
  have hl := hc.c
  have hlen : (insertP s.bs b).length = s.bs.length + 1 := by
    unfold insertP;simp only [List.length_append,List.length_take,List.length_drop,List.length_cons,List.length_nil]
    omega
  refine ⟨by simp only;rw [hl];exact h.n1,by simp only;rw [hl];exact hc,by simp only;omega,fun x hx => ?_,?_,fun k hk => ?_,fun k hk hk2 => ?_⟩
  · simp only [insertP,List.mem_append,List.mem_singleton] at hx
    rcases hx with (hx | rfl) | hx
    · exact h.oks x (List.mem_of_mem_take hx)
    · exact hok
    · exact h.oks x (List.mem_of_mem_drop hx)
  · exact insert_sorted s.bs b h.srt (fun x hx => find_not s.bs b.nm hn x hx)
  · simp only at hk ⊢
    rw [hl] at hk;rw [hcnt k hk,insertP,cntAll_insert,h.cnt k hk]
  · simp only at hk ⊢
    rw [hl] at hk;rw [insertP,cntAll_insert,h.out k hk hk2,hout k hk hk2]
    rfl
theorem ShInv.erase {s : Sf} (h : ShInv s) (i : Nat) (hi : i < s.bs.length) (cs ps : List Int) (hc : Cells s.cs.length cs ps)
    (hcnt : ∀ k,k < s.cs.length -> cs.getD k 0 = s.cs.getD k 0 - s.bs[i].cnt (k : Int)) : ShInv ⟨cs,ps,s.bs.take i ++ s.bs.drop (i + 1)⟩ := by
  have hl := hc.c
  have hsub : (s.bs.take i ++ s.bs.drop (i + 1)).Sublist s.bs := by
    have e := List.take_append_drop i s.bs
    have d : (s.bs.drop (i + 1)).Sublist (s.bs.drop i) := by
      rw [List.drop_eq_getElem_cons hi];exact List.sublist_cons_self _ _
    have := (List.Sublist.refl (s.bs.take i)).append d
    rwa [e] at this
  refine ⟨by simp only;rw [hl];exact h.n1,by simp only;rw [hl];exact hc,Nat.le_trans hsub.length_le h.few,fun x hx => h.oks x (hsub.subset hx),h.srt.sublist (hsub.map _),fun k hk => ?_,fun k hk hk2 => ?_⟩
  · simp only at hk ⊢
    rw [hl] at hk;rw [hcnt k hk,cntAll_erase s.bs i hi,h.cnt k hk]
  · simp only at hk ⊢
    rw [hl] at hk;rw [cntAll_erase s.bs i hi,h.out k hk hk2,cnt_out h i hi k hk hk2]
    rfl
theorem cutAt_split (l : List Int) (hl : l.length = 16) (n : Nat) (hn : n <= 16) : cutAt l n = l.take n ++ List.replicate (16 - n) (-1) := by
  apply List.ext_getElem?
  intro j;unfold cutAt;by_cases hj : j < 16
  · rw [List.getElem?_map,List.getElem?_range hj]
    by_cases h : j < n
    · rw [List.getElem?_append_left (by simp;omega),List.getElem?_take_of_lt h,List.getElem?_eq_getElem (by omega)]
      simp only [Option.map_some];rw [if_pos (by omega),getD_of l j (by omega)]
    · rw [List.getElem?_append_right (by simp;omega),List.getElem?_replicate,if_pos (by simp;omega)]
      simp only [Option.map_some];rw [if_neg (by omega)]
  · rw [List.getElem?_eq_none (by simp;omega),List.getElem?_eq_none (by simp;omega)]
theorem cutAt_count (l : List Int) (hl : l.length = 16) (n : Nat) (hn : n <= 16) (k : Nat) : ((cutAt l n).count (k : Int) : Int) = (l.count (k : Int) : Int) - ((l.drop n).count (k : Int) : Int) := by
  have e : l.count (k : Int) = (l.take n).count (k : Int) + (l.drop n).count (k : Int) := by rw [<- List.count_append,List.take_append_drop]
  rw [cutAt_split l hl n hn,List.count_append,List.count_replicate,if_neg (by rw [beq_iff_eq];omega)]
  omega
theorem set_count (l : List Int) (j : Nat) (hj : j < l.length) (v : Int) (k : Nat) : ((l.set j v).count (k : Int) : Int) = (l.count (k : Int) : Int) - (if l.getD j 0 = (k : Int) then 1 else 0) + (if v = (k : Int) then 1 else 0) := by
  rw [List.count_set hj,getD_of l j hj];by_cases h1 : l[j] = (k : Int)
  · have hp : 1 <= l.count (k : Int) := by
      have : (k : Int) ∈ l := by rw [<- h1];exact List.getElem_mem hj
      exact List.count_pos_iff.2 this
    rw [if_pos h1,if_pos (by rw [beq_iff_eq];exact h1)];by_cases h2 : v = (k : Int)
    · rw [if_pos h2,if_pos (by rw [beq_iff_eq];exact h2)];omega
    · rw [if_neg h2,if_neg (by rw [beq_iff_eq];exact h2)];omega
  · rw [if_neg h1,if_neg (by rw [beq_iff_eq];exact h1)]
    by_cases h2 : v = (k : Int)
    · rw [if_pos h2,if_pos (by rw [beq_iff_eq];exact h2)];omega
    · rw [if_neg h2,if_neg (by rw [beq_iff_eq];exact h2)];omega
theorem cut_pages (rs : List (Int × Int × Int)) (hm : mapOk rs = true) (n : Nat) (hn : n <= 16) : mapOk (mapOf (cutAt (pages rs) n)) = true /\ pages (mapOf (cutAt (pages rs) n)) = cutAt (pages rs) n /\ endsBy (mapOf (cutAt (pages rs) n)) n = true := by
  have hr := cutAt_range rs hm n;have h := mapOf_ok (cutAt (pages rs) n) (cutAt_length _ _) hr;exact ⟨h.1,h.2,ends_of _ (cutAt_length _ _) hr n hn (fun j h1 h2 => by rw [cutAt_get _ _ j h2,if_neg (by omega)];omega)⟩
theorem set_pages (b : Pb) (hb : b.ok = true) (j : Nat) (hj : (j : Int) < b.sz) (v : Int) (hv : -1 <= v /\ v <= 23) : mapOk (mapOf ((pages b.rs).set j v)) = true /\ pages (mapOf ((pages b.rs).set j v)) = (pages b.rs).set j v /\ endsBy (mapOf ((pages b.rs).set j v)) b.sz = true := by
  obtain ⟨-,hs,-,hm,he⟩ := book_parts hb;have hr := set_range b.rs hm j (by omega) v hv;have hl : ((pages b.rs).set j v).length = 16 := by rw [List.length_set,pages_length]
  have h := mapOf_ok _ hl hr;obtain ⟨z,hz⟩ := Int.eq_ofNat_of_zero_le (show 0 <= b.sz by omega);refine ⟨h.1,h.2,?_⟩;rw [hz]
  exact ends_of _ hl hr z (by omega) (fun i h1 h2 => by
    rw [getD_set16 _ _ _ _ (by rw [pages_length];omega),if_neg (by omega),ends_to b.rs b.sz hm he i h2 (by omega)]
    omega)
theorem cut_ok {s : Sf} (h : ShInv s) (i : Nat) (hi : i < s.bs.length) (n : Nat) (hn : n <= 16) : Cells s.cs.length (cutBook s i n).cs (cutBook s i n).ps /\ ∀ k,k < s.cs.length -> (cutBook s i n).cs.getD k 0 = s.cs.getD k 0 - (((pages s.bs[i].rs).drop n).count (k : Int) : Int) := by
  unfold cutBook;rw [bookAt_of s.bs i hi];simp only;refine dropAll_ok _ h.cells (fun p hp => ?_) (fun k hk => ?_)
  · by_cases h0 : 0 <= p
    · exact (h.page i hi p (List.mem_of_mem_drop hp) h0).1
    · omega
  · have h1 := cnt_le_cs h i hi k hk
    unfold Pb.cnt at h1;have h2 := (List.drop_sublist n (pages s.bs[i].rs)).count_le (k : Int)
    omega
theorem Cells.same {n : Nat} {cs ps : List Int} (h : Cells n cs ps) (p : Nat) (hp : p < n) (v : Int) (hv : 0 <= v /\ v <= 999) (hc : cs.getD p 0 ≠ 0) : Cells n cs (ps.set p v) :=
  ⟨h.c,by simpa using h.p,fun k hk => by
    rw [getD_set ps p k v (by rw [h.p];exact hp)];have := h.val k hk;by_cases e : p = k
    · subst e;rw [if_pos rfl];exact ⟨hv.1,hv.2,fun q => absurd q hc⟩
    · rw [if_neg e];exact this⟩
theorem Cells.took {n : Nat} {cs ps : List Int} (h : Cells n cs ps) (v : Int) (hv : 0 <= v /\ v <= 999) (hf : firstFree cs < cs.length) : Cells n (tookC cs) (tookP cs ps v) /\ ∀ k,k < n -> (tookC cs).getD k 0 = cs.getD k 0 + (if tookAt cs = (k : Int) then 1 else 0) := by
  have hc := h.c;have h0 := firstFree_at cs hf;unfold tookC tookP tookAt;rw [if_pos hf,if_pos hf,if_pos hf];have g : ∀ k,(cs.set (firstFree cs) 1).getD k 0 = if firstFree cs = k then 1 else cs.getD k 0 := fun k => getD_set cs _ k _ hf
  refine ⟨⟨by simpa using hc,by simpa using h.p,fun k hk => ?_⟩,fun k hk => ?_⟩
  · rw [g,getD_set ps _ k v (by rw [h.p];omega)]
    have := h.val k hk;by_cases e : firstFree cs = k
    · rw [if_pos e,if_pos e];exact ⟨hv.1,hv.2,fun q => by omega⟩
    · rw [if_neg e,if_neg e];exact this
  · rw [g]
    by_cases e : firstFree cs = k
    · subst e;rw [if_pos rfl,if_pos rfl];omega
    · rw [if_neg e,if_neg (by omega)];omega
end Go.Proofs.YtmnhnhjefocicaaGreatDoor
