import Derived.Laws.CopyOwn
import Derived.Test.YtaekdfknkgmfbaaGreatDoorM01
import Derived.Test.YtaekdfknkgmfbaaGreatDoorM03
import Derived.Test.YtaekdfknkgmfbaaGreatDoorM07
import Derived.Test.YtaekdfknkgmfbaaGreatDoorM09
import Derived.Test.YtaekdfknkgmfbaaGreatDoorM12
import Derived.Test.YtaekdfknkgmfbaaGreatDoorM17
namespace Go.Proofs.YtaekdfknkgmfbaaGreatDoor
open Go.RowKit
set_option linter.unusedVariables false
set_option maxRecDepth 100000
structure RP (B : Nat) (w : World) (v1 v2 : Value) (cs ps : List Int) : Prop where
  c : Reads B w v1 (cs.map (Value.int .i64))
  p : Reads B w v2 (ps.map (Value.int .i64))
theorem RP.below {B : Nat} {w w' : World} {v1 v2 : Value} {cs ps : List Int} (h : RP B w v1 v2 cs ps) (k : Below B w w') : RP B w' v1 v2 cs ps := ⟨h.c.below k,h.p.below k⟩
theorem RP.mono {B B' : Nat} {w : World} {v1 v2 : Value} {cs ps : List Int} (h : RP B w v1 v2 cs ps) (k : B <= B') : RP B' w v1 v2 cs ps := ⟨h.c.mono k,h.p.mono k⟩
theorem RP.of {B : Nat} {W : World} {v1 v2 : Value} {cs ps : List Int} (h : RP B W v1 v2 cs ps) (y : B <= W.heap.size) (p : BelowOf W) : RP p.w'.heap.size p.w' v1 v2 cs ps := ((h.mono y).below p.h).mono p.h.size
theorem RP.forms {B : Nat} {w : World} {v1 v2 : Value} {cs ps : List Int} (h : RP B w v1 v2 cs ps) : ∃ o1 k1 o2 k2,v1 = .slice o1 cs.length k1 /\ v2 = .slice o2 ps.length k2 := by
  obtain ⟨⟨o,k,e,-⟩,⟨o',k',e',-⟩⟩ := h;exact ⟨o,k,o',k',by rw [e,List.length_map],by rw [e',List.length_map]⟩
theorem OwnP.reads {base : Nat} {w : World} {v1 v2 : Value} {cs ps : List Int} (h : OwnP base w v1 v2 cs ps) : RP w.heap.size w v1 v2 cs ps := ⟨h.r1,h.r2⟩
theorem OwnP.forms {base : Nat} {w : World} {v1 v2 : Value} {cs ps : List Int} (h : OwnP base w v1 v2 cs ps) : ∃ o1 c1 o2 c2,v1 = .slice o1 cs.length c1 /\ v2 = .slice o2 ps.length c2 := by
  obtain ⟨o1,c1,h1⟩ := own_slice h.c;obtain ⟨o2,c2,h2⟩ := own_slice h.p;exact ⟨o1,c1,o2,c2,h1,h2⟩
set_option maxHeartbeats 800000 in
theorem likePool_any (a1 a2 b1 b2 : Value) (cs ps cs' ps' : List Int) (w : World) (r : RP w.heap.size w a1 a2 cs ps) (r' : RP w.heap.size w b1 b2 cs' ps') :
    Calls Tryz.prog 69 #[.agg #[a1,a2],.agg #[b1,b2]] w fun e w' => e = .returned (.bool (decide (cs = cs') && decide (ps = ps'))) /\ Below w.heap.size w w' := by
  obtain ⟨W0,hW0,k0,k1,d0,z0⟩ := box2 w #[a1,a2] #[b1,b2] 26 26;have r0 := (r.below d0).mono d0.size;have r1 := (r'.below d0).mono d0.size;have HW0 : Hid (W0 = _) := hW0;clear hW0 r r'
  go_enter Tryz.func69,Tryz.ntmps69
  go_wp2_with fail
  rw [<- HW0.out];clear HW0;refine (likeInts_any a1 b1 cs cs' _ r0.c r1.c).mono ?_;rintro e w1 ⟨rfl,b⟩;replace k0 := (b.block _ (by omega)).trans k0;replace k1 := (b.block _ (by omega)).trans k1;replace d0 := bw_call d0 b;replace r0 := (r0.below b).mono b.size;replace r1 := (r1.below b).mono b.size;have p0 := at_cell k0 1;have p1 := at_cell k1 1;by_cases hc : cs = cs'
  · rw [decide_eq_true hc]
    go_wp2_with fail
    refine (likeInts_any a2 b2 ps ps' _ r0.p r1.p).mono ?_;rintro e w2 ⟨rfl,b2'⟩;replace d0 := bw_call d0 b2';have HC : Hid (cs = cs') := hc;clear hc;generalize hd : decide (ps = ps') = dd
    go_wp2_with fail
    go_ret;exact ⟨ret_bool (by rw [decide_eq_true HC.out,Bool.true_and,hd]),d0⟩
  · rw [decide_eq_false hc]
    have HP : Hid (¬ cs = cs') := hc;clear hc
    go_wp2_with fail
    go_ret;exact ⟨ret_bool (by rw [decide_eq_false HP.out,Bool.false_and]),d0⟩
structure RS (B : Nat) (w : World) (v1 v2 vb : Value) (cs ps : List Int) (bks : List Bk) : Prop where
  p : RP B w v1 v2 cs ps
  b : ReadsB B w vb bks
theorem RS.below {B : Nat} {w w' : World} {v1 v2 vb : Value} {cs ps : List Int} {bks : List Bk} (h : RS B w v1 v2 vb cs ps bks) (k : Below B w w') : RS B w' v1 v2 vb cs ps bks := ⟨h.p.below k,h.b.below k⟩
theorem RS.mono {B B' : Nat} {w : World} {v1 v2 vb : Value} {cs ps : List Int} {bks : List Bk} (h : RS B w v1 v2 vb cs ps bks) (k : B <= B') : RS B' w v1 v2 vb cs ps bks := ⟨h.p.mono k,h.b.mono k⟩
theorem RS.forms {B : Nat} {w : World} {v1 v2 vb : Value} {cs ps : List Int} {bks : List Bk} (h : RS B w v1 v2 vb cs ps bks) : ∃ o1 k1 o2 k2 ob kb,v1 = .slice o1 cs.length k1 /\ v2 = .slice o2 ps.length k2 /\ vb = .slice ob bks.length kb := by
  obtain ⟨o1,k1,o2,k2,e1,e2⟩ := h.p.forms;obtain ⟨ob,kb,e3,-⟩ := h.b.row;exact ⟨o1,k1,o2,k2,ob,kb,e1,e2,e3⟩
structure OwnS (base : Nat) (w : World) (v1 v2 vb : Value) (cs ps : List Int) (bks : List Bk) : Prop where
  p : OwnP base w v1 v2 cs ps
  b : OwnB base w vb bks
  a : ApartM bks
theorem OwnS.below {base : Nat} {w w' : World} {v1 v2 vb : Value} {cs ps : List Int} {bks : List Bk} (h : OwnS base w v1 v2 vb cs ps bks) (k : Below w.heap.size w w') : OwnS base w' v1 v2 vb cs ps bks := ⟨h.p.below k,h.b.below k,h.a⟩
theorem OwnS.mono {base base' : Nat} {w : World} {v1 v2 vb : Value} {cs ps : List Int} {bks : List Bk} (h : OwnS base w v1 v2 vb cs ps bks) (k : base' <= base) : OwnS base' w v1 v2 vb cs ps bks := ⟨h.p.mono k,h.b.mono k,h.a⟩
theorem OwnS.reads {base : Nat} {w : World} {v1 v2 vb : Value} {cs ps : List Int} {bks : List Bk} (h : OwnS base w v1 v2 vb cs ps bks) : RS w.heap.size w v1 v2 vb cs ps bks := ⟨h.p.reads,h.b.reads⟩
theorem OwnS.upto {base c : Nat} {w w' : World} {v1 v2 vb : Value} {cs ps : List Int} {bks : List Bk} (h : OwnS base w v1 v2 vb cs ps bks) (u : Upto c w w') (hc : c < base) : OwnS base w' v1 v2 vb cs ps bks := ⟨h.p.upto u hc,h.b.upto u hc,h.a⟩
theorem OwnS.forms {base : Nat} {w : World} {v1 v2 vb : Value} {cs ps : List Int} {bks : List Bk} (h : OwnS base w v1 v2 vb cs ps bks) : ∃ o1 k1 o2 k2 ob kb,v1 = .slice o1 cs.length k1 /\ v2 = .slice o2 ps.length k2 /\ vb = .slice ob bks.length kb := h.reads.forms
theorem readsB_nil (B : Nat) (w : World) : ReadsB B w (.slice none 0 0) [] := ⟨⟨none,0,rfl,Nat.zero_le _,fun i x h => by simp at h,Nat.le_refl _⟩,fun b hb => by simp at hb⟩
theorem plain_of_pb {bs ms : List Bk} (h : ms.map Bk.pb = bs.map Bk.pb) : ms.map plainB = bs.map plainB := by
  have := congrArg (List.map (fun x : Pb => (x.nm,x.sz,x.rs,x.fx,x.ep))) h;simp only [List.map_map] at this;exact this
end Go.Proofs.YtaekdfknkgmfbaaGreatDoor
namespace Go.Proofs.YtaekdfknkgmfbaaGreatDoor
open Go.RowKit
set_option linter.unusedVariables false
theorem apart_at {bs : List Bk} (h : ApartM bs) (i j : Nat) (hi : i < bs.length) (hj : j < bs.length) (hne : i ≠ j) (g : Nat) (hg : bs[i].m.ownBlock = some g) : bs[j].m.ownBlock ≠ some g := by
  rcases Nat.lt_or_gt_of_ne hne with q | q
  · exact (List.pairwise_iff_getElem.1 h i j hi hj q) g hg
  · exact fun hx => (List.pairwise_iff_getElem.1 h j i hj hi q) g hx hg
theorem maps_book {w w' : World} {base g n cap : Nat} {xs : List Bk} (h : w.ownsRow base 48 5 (.slice (some ⟨g,0,none⟩) n cap) xs.length (xs.flatMap bookC)) (u : Upto g w w') {v : Value} {k : Nat} {ys : List Value} (hm : w.ownsRow base 112 3 v k ys) : w'.ownsRow base 112 3 v k ys := by
  obtain ⟨cur,hcur⟩ : ∃ cur,w.heap[g]? = some (.cells cur 48 (0,0)) := by
    rcases h.2 with ⟨e,_⟩ | ⟨g',cap',cur,e,_,hh,_⟩
    · simp at e
    · simp only [Value.slice.injEq,Option.some.injEq,Addr.mk.injEq,and_true] at e
      obtain ⟨rfl,_⟩ := e;exact ⟨cur,hh⟩
  exact own_rng_not hm (fun q hq hqv => u.block q hq (fun hx => own_not_box hm hcur (by decide) (by rw [<- hx];exact hqv)))
end Go.Proofs.YtaekdfknkgmfbaaGreatDoor
namespace Go.Proofs.YtaekdfknkgmfbaaGreatDoor
open Go.RowKit
set_option linter.unusedVariables false
set_option maxRecDepth 100000
theorem own_apart {w : World} {base base' : Nat} {e e' : TypeId} {k k' n n' : Nat} {v v' : Value} {xs ys : List Value} (h : w.ownsRow base e k v n xs) (h' : w.ownsRow base' e' k' v' n' ys) (hne : e' ≠ e) (g : Nat) (hg : v'.ownBlock = some g) : v.ownBlock ≠ some g := by
  rcases h'.2 with ⟨rfl,_⟩ | ⟨g',cap',cur,rfl,_,hh,_⟩
  · simp [Value.ownBlock] at hg
  · simp [Value.ownBlock] at hg
    subst hg;exact own_not_box h hh hne
theorem run_copy_all {P : Program} (w : World) (T ty e : TypeId) (hu : P.underlying T = some (.slice e)) (hsz : (P.info? e).map (·.size) = some 1)
    (base g n cap : Nat) (ys news : List Value) (hown : w.ownsRow base e 1 (.slice (some ⟨g,0,none⟩) n cap) n ys)
    (ad : Option Addr) (c : Nat) (hl : news.length = n) (hnews : ∀ j u,news[j]? = some u -> ∃ g off,ad = some ⟨g,off,none⟩ /\ w.cell? ⟨g,off + j,none⟩ = some u) (h1 : ∀ u ∈ news,u.oneCell' = true) :
    ∃ w',(Builtin.copy_ #[T,T] ty #[.slice (some ⟨g,0,none⟩) n cap,.slice ad n c]).run P w = .ok (.int .i64 n) w' /\ w'.ownsRow base e 1 (.slice (some ⟨g,0,none⟩) n cap) n news /\ Upto g w w' := by
  rcases Nat.eq_zero_or_pos n with hn | hn
  · subst hn
    have e1 : news = [] := List.length_eq_zero_iff.1 hl;have e2 : ys = [] := List.length_eq_zero_iff.1 (by simpa using hown.1);subst e1;subst e2;exact ⟨w,run_copy_none (P := P) w T T ty e _ _ 0 cap 0 c hu hsz rfl,hown,Upto.refl _ _⟩
  · obtain ⟨g',off,rfl,_⟩ := hnews 0 _ (List.getElem?_eq_getElem (show 0 < news.length by omega))
    have hsrc : ∀ j v,news[j]? = some v -> w.cell? ((⟨g',off,none⟩ : Addr).add j) = some v := fun j u hj => by
      obtain ⟨g2,off2,e2,hc⟩ := hnews j u hj;cases e2;have ea : (⟨g',off,none⟩ : Addr).add j = ⟨g',off + j,none⟩ := by unfold Addr.add;split <;> simp_all
      rw [ea];exact hc
    rcases hown.2 with ⟨h',_⟩ | ⟨g2,cap2,cur,h',hbg,hg,hnc,hcm,hcs,htake⟩
    · cases h'
    · simp only [Value.slice.injEq,Option.some.injEq,Addr.mk.injEq,and_true,true_and] at h'
      obtain ⟨rfl,rfl⟩ := h';have hr := run_copy_row (P := P) w T T ty e g 0 n cap ⟨g',off,none⟩ n c cur e news hu hsz hg (by rw [hl];exact (Nat.min_self n).symm) hsrc (by omega) h1;rw [hl] at hr;refine ⟨_,hr,⟨by omega,.inr ⟨g,cap,_,rfl,hbg,setRow_heap w g cur _ e _ hg,hnc,hcm,?_,?_⟩⟩,⟨rfl,rfl,rfl,by simp,fun k _ hk => setRow_other w g k _ hk⟩⟩
      · simp;omega
      · rw [Nat.mul_one,List.take_zero,List.nil_append,<- hl]
        exact List.take_left
theorem pageCountOk_any (n : Int) (w : World) :
    Calls Tryz.prog 132 #[.int .i64 n] w fun e w' => e = .returned (.bool (decide (1 <= n) && decide (n <= 24))) /\ w' = w := by
  by_cases h : (1 : Int) <= n
  · go_enter Tryz.func132,Tryz.ntmps132
    go_wp2
    go_ret;exact ⟨ret_bool (by simp [h]),rfl⟩
  · go_enter Tryz.func132,Tryz.ntmps132
    go_wp2
    go_ret;exact ⟨ret_bool (by simp;omega),rfl⟩
theorem valueOk_any (n : Int) (w : World) :
    Calls Tryz.prog 161 #[.int .i64 n] w fun e w' => e = .returned (.bool (decide (0 <= n) && decide (n <= 999))) /\ w' = w := by
  by_cases h : (0 : Int) <= n
  · go_enter Tryz.func161,Tryz.ntmps161
    go_wp2
    go_ret;exact ⟨ret_bool (by simp [h]),rfl⟩
  · go_enter Tryz.func161,Tryz.ntmps161
    go_wp2
    go_ret;exact ⟨ret_bool (by simp;omega),rfl⟩
theorem cellOk_any (c p : Int) (w : World) :
    Calls Tryz.prog 143 #[.int .i64 c,.int .i64 p] w fun e w' => e = .returned (.bool (cellOk c p)) /\ w' = w := by
  by_cases h1 : c < 0
  · have hv : cellOk c p = false := by simp [cellOk];omega
    rw [hv]
    go_enter Tryz.func143,Tryz.ntmps143
    go_wp2
    go_ret;exact ⟨rfl,rfl⟩
  by_cases h2 : (400 : Int) < c
  · have hv : cellOk c p = false := by simp [cellOk];omega
    rw [hv]
    go_enter Tryz.func143,Tryz.ntmps143
    go_wp2
    go_ret;exact ⟨rfl,rfl⟩
  cases hp : (decide (0 <= p) && decide (p <= 999))
  · have hv : cellOk c p = false := by simp [cellOk,hp]
    rw [hv]
    go_enter Tryz.func143,Tryz.ntmps143
    go_wp2_with fail
    refine (valueOk_any _ _).mono ?_;rintro e w' ⟨rfl,rfl⟩;rw [hp]
    go_wp2_with fail
    go_ret;exact ⟨rfl,rfl⟩
  · by_cases h3 : 0 < c
    · have hv : cellOk c p = true := (cellOk_iff c p).2 (by simp at hp;omega)
      rw [hv]
      go_enter Tryz.func143,Tryz.ntmps143
      go_wp2_with fail
      refine (valueOk_any _ _).mono ?_;rintro e w' ⟨rfl,rfl⟩;rw [hp]
      go_wp2_with fail
      go_ret;exact ⟨rfl,rfl⟩
    · have hv : cellOk c p = (p == 0) := by
        rw [Bool.eq_iff_iff,cellOk_iff,beq_iff_eq];simp at hp;omega
      rw [hv]
      go_enter Tryz.func143,Tryz.ntmps143
      go_wp2_with fail
      refine (valueOk_any _ _).mono ?_;rintro e w' ⟨rfl,rfl⟩;rw [hp]
      go_wp2_with fail
      go_ret;have hd : decide (0 < c) = false := by simp;omega
      exact ⟨ret_bool (by simp [hd]),rfl⟩
set_option maxHeartbeats 1600000 in
theorem implPoolOk_any (v1 v2 : Value) (cs ps : List Int) (w : World) (h1 : Reads w.heap.size w v1 (cs.map (Value.int .i64))) (h2 : Reads w.heap.size w v2 (ps.map (Value.int .i64))) :
    Calls Tryz.prog 71 #[.agg #[v1,v2]] w fun e w' => e = .returned (.bool (poolOk cs ps)) /\ Below w.heap.size w w' := by
  obtain ⟨o1,cap1,rfl,m1,c1,-⟩ := h1;obtain ⟨o2,cap2,rfl,m2,c2,-⟩ := h2;simp only [List.length_map] at m1 m2 ⊢;have C1 : Hid (∀ j u,(cs.map (Value.int .i64))[j]? = some u -> ∃ g off,o1 = some ⟨g,off,none⟩ /\ g < w.heap.size /\ w.cell? ⟨g,off + j,none⟩ = some u) := c1;have C2 : Hid (∀ j u,(ps.map (Value.int .i64))[j]? = some u -> ∃ g off,o2 = some ⟨g,off,none⟩ /\ g < w.heap.size /\ w.cell? ⟨g,off + j,none⟩ = some u) := c2;clear c1 c2;unfold maxLen at m1 m2;obtain ⟨W0,hW0,k0,d0,z0⟩ := pool_box w (.slice o1 cs.length cap1) (.slice o2 ps.length cap2) 26;have HW0 : Hid (W0 = _) := hW0;obtain ⟨p0,p1⟩ := c2 k0;clear hW0 k0;by_cases he : ps.length = cs.length
  · have hne : ((cs.length : Int) != (ps.length : Int)) = false := by simp [he]
    have HE : Hid (ps.length = cs.length) := he;have he1 : ps.length <= cs.length := by omega
    have he2 : cs.length <= ps.length := by omega
    clear he;cases hl : (decide ((1 : Int) <= (cs.length : Int)) && decide ((cs.length : Int) <= 24))
    · have hv : poolOk cs ps = false := poolOk_no cs ps fun q => by simp at hl;omega
      rw [hv]
      go_enter Tryz.func71,Tryz.ntmps71
      go_wp2_with fail
      rw [<- HW0.out];clear HW0;refine (pageCountOk_any _ _).mono ?_;rintro e w' ⟨rfl,rfl⟩;rw [hl]
      go_wp2_with fail
      go_ret;exact ⟨rfl,d0⟩
    · have hb : 1 <= cs.length /\ cs.length <= 24 := by simp at hl;omega
      go_enter Tryz.func71,Tryz.ntmps71
      go_wp2_with fail
      rw [<- HW0.out];clear HW0;refine (pageCountOk_any _ _).mono ?_;rintro e w' ⟨rfl,rfl⟩;rw [hl]
      go_wp2_with fail
      go_loopw [22] (fun i wr => ∃ k : Nat,k <= cs.length /\ i = .int .i64 k /\ (∀ j,j < k -> cellOk (cs.getD j 0) (ps.getD j 0) = true) /\ wr = w') (fun i _ => cs.length - (intOf i).toNat)
      case atStart => exact ⟨0,Nat.zero_le _,rfl,fun j hj => by omega,rfl⟩
      case round =>
        obtain ⟨k,hk,rfl,hall,rfl⟩ := hrel;have HA : Hid (∀ j,j < k -> cellOk (cs.getD j 0) (ps.getD j 0) = true) := hall;clear hall;by_cases hlt : k < cs.length
        · obtain ⟨g1,of1,rfl,q1,cc1⟩ := C1.out k _ (getD_some cs k hlt)
          obtain ⟨g2,of2,rfl,q2,cc2⟩ := C2.out k _ (getD_some ps k (by omega));have d1 := (d0.cell (p := ⟨g1,of1 + k,none⟩) q1).trans cc1;have d2 := (d0.cell (p := ⟨g2,of2 + k,none⟩) q2).trans cc2
          have HN : Hid (cellOk (cs.getD k 0) (ps.getD k 0) = true -> ∀ j,j < k + 1 -> cellOk (cs.getD j 0) (ps.getD j 0) = true) := fun h j hj => by
            rcases Nat.lt_or_ge j k with q | q
            · exact HA.out j q
            · obtain rfl : j = k := by omega
              exact h
          have HNo : Hid (cellOk (cs.getD k 0) (ps.getD k 0) = false -> poolOk cs ps = false) := fun h => poolOk_no cs ps fun q => by rw [q.2.2.2 k hlt] at h;cases h
          clear C1 C2 cc1 cc2 HA;have hle2 : (k : Int) < (ps.length : Int) := by rw [HE.out];omega
          generalize cs.getD k 0 = c at *;generalize ps.getD k 0 = p at *
          go_wp2_with fail
          refine (cellOk_any c p _).mono ?_;rintro e w1 ⟨rfl,rfl⟩;cases hc : cellOk c p
          · go_wp2_with fail
            go_ret;exact ⟨ret_bool (HNo.out hc).symm,d0⟩
          · have HNN : Hid _ := HN.out hc
            go_wp2_with fail
            go_roundw
            case rel => exact ⟨k + 1,by omega,by go_num,HNN.out,by trivial⟩
            case measure => simp [intOf];omega
        · have hv : poolOk cs ps = true := (poolOk_iff cs ps).2 ⟨hb.1,hb.2,HE.out,fun j hj => HA.out j (by omega)⟩
          go_wp2_with fail
          go_ret;exact ⟨ret_bool hv.symm,d0⟩
  · have hne : ((cs.length : Int) != (ps.length : Int)) = true := by simp;omega
    have hv : poolOk cs ps = false := poolOk_no cs ps fun q => he q.2.2.1
    rw [hv]
    go_enter Tryz.func71,Tryz.ntmps71
    go_wp2_with fail
    rw [<- HW0.out];clear HW0
    go_wp2_with fail
    go_ret;exact ⟨rfl,d0⟩
set_option maxHeartbeats 800000 in
theorem implNewPool_any (n : Int) (w : World) :
    Calls Tryz.prog 66 #[.int .i64 n] w fun e w' => ∃ u1 u2 : Value,e = .returned (.tuple #[.agg #[u1,u2],.bool (newPool n).2]) /\ OwnP w.heap.size w' u1 u2 (newPool n).1.1 (newPool n).1.2 /\ Below w.heap.size w w' := by
  obtain ⟨W0,hW0,k0,d0,z0⟩ := pool_box w (.slice none 0 0) (.slice none 0 0) 26;have HW0 : Hid (W0 = _) := hW0;obtain ⟨p0,p1⟩ := c2 k0;obtain ⟨f0,f1⟩ := o2 k0;clear hW0;cases hn : (decide ((1 : Int) <= n) && decide (n <= 24))
  · have hv : newPool n = (([],[]),false) := by
      unfold newPool;rw [if_neg];rintro ⟨h1,h2⟩;simp [h1,h2] at hn
    rw [hv];have HS : Hid _ := pool_end w W0 (.slice none 0 0) (.slice none 0 0) _ _ w.heap.size [] [] (Nat.le_refl _) k0 (OwnP.nil _ _) d0;clear hv k0
    go_enter Tryz.func66,Tryz.ntmps66
    go_wp2_with fail
    rw [<- HW0.out];refine (pageCountOk_any _ _).mono ?_;rintro e w' ⟨rfl,rfl⟩;rw [hn]
    go_wp2_with fail
    exact bodyPost_ret (v := .tuple #[.agg #[.slice none 0 0,.slice none 0 0],.bool false]) (by simp [results,Tryz.results66,go_sem,at_cell HS.out.1]) rfl ⟨_,_,rfl,HS.out.2⟩
  · have hb : 1 <= n /\ n <= 24 := by simpa using hn
    obtain ⟨m,rfl⟩ := Int.eq_ofNat_of_zero_le (show 0 <= n by omega)
    have hv : newPool (m : Int) = ((List.replicate m 0,List.replicate m 0),true) := by
      unfold newPool;rw [if_pos hb,Int.toNat_natCast]
    rw [hv];obtain ⟨M,hM,hmk,hown⟩ := made_ints m (by omega);clear hv
    go_enter Tryz.func66,Tryz.ntmps66
    go_wp2_with fail
    rw [<- HW0.out];refine (pageCountOk_any _ _).mono ?_;rintro e w' ⟨rfl,rfl⟩;rw [hn]
    go_wp2_with fail
    go_region
    · have HS : Hid _ := new_end k0 d0 z0 hown (w.heap.size + 1) (w.heap.size + 1 + 1) (.inl ⟨rfl,rfl⟩)
      clear k0 d0 hown hmk HW0
      go_wp2_with fail
      exact bodyPost_ret (v := .tuple #[.agg #[.slice (some ⟨w.heap.size + 1,0,none⟩) m m,.slice (some ⟨w.heap.size + 1 + 1,0,none⟩) m m],.bool true]) (by simp [results,Tryz.results66,go_sem,at_cell HS.out.1]) rfl ⟨_,_,rfl,HS.out.2⟩
    · have HS : Hid _ := new_end k0 d0 z0 hown (w.heap.size + 1 + 1) (w.heap.size + 1) (.inr ⟨rfl,rfl⟩)
      clear k0 d0 hown hmk HW0
      go_wp2_with fail
      exact bodyPost_ret (v := .tuple #[.agg #[.slice (some ⟨w.heap.size + 1 + 1,0,none⟩) m m,.slice (some ⟨w.heap.size + 1,0,none⟩) m m],.bool true]) (by simp [results,Tryz.results66,go_sem,at_cell HS.out.1]) rfl ⟨_,_,rfl,HS.out.2⟩
set_option maxHeartbeats 800000 in
theorem index_any (v : Value) (cs : List Int) (w : World) (h1 : Reads w.heap.size w v (cs.map (Value.int .i64))) :
    Calls Tryz.prog 242 #[v,.int .i64 0] w fun e w' => e = .returned (.int .i64 (tookAt cs)) /\ w' = w := by
  obtain ⟨o1,cap1,rfl,m1,c1,-⟩ := h1;simp only [List.length_map] at m1 ⊢;have C1 : Hid (∀ j u,(cs.map (Value.int .i64))[j]? = some u -> ∃ g off,o1 = some ⟨g,off,none⟩ /\ g < w.heap.size /\ w.cell? ⟨g,off + j,none⟩ = some u) := c1;unfold maxLen at m1;clear c1
  go_enter Tryz.func242,Tryz.ntmps242
  go_wp2_with fail
  go_loopw [8] (fun i wr => ∃ k : Nat,k <= cs.length /\ i = .int .i64 k /\ (∀ j,j < k -> cs.getD j 0 ≠ 0) /\ wr = w) (fun i _ => cs.length - (intOf i).toNat)
  case atStart => exact ⟨0,Nat.zero_le _,rfl,fun j hj => by omega,rfl⟩
  case round =>
    obtain ⟨q,hq,rfl,hall,rfl⟩ := hrel;have HA : Hid (∀ j,j < q -> cs.getD j 0 ≠ 0) := hall;clear hall;by_cases hlt : q < cs.length
    · obtain ⟨g1,of1,rfl,q1,cc1⟩ := C1.out q _ (getD_some cs q hlt)
      clear C1;by_cases hz : cs.getD q 0 = 0
      · have hf := firstFree_eq cs q hlt hz HA.out
        have HR : Hid (tookAt cs = q) := by rw [Hid,tookAt,hf,if_pos hlt]
        rw [hz] at cc1;clear hf hz HA
        go_wp2_with fail
        go_ret;exact ⟨ret_int HR.out.symm,rfl⟩
      · have HNN : Hid (∀ j,j < q + 1 -> cs.getD j 0 ≠ 0) := fun j hj => by
          rcases Nat.lt_or_ge j q with r | r
          · exact HA.out j r
          · obtain rfl : j = q := by omega
            exact hz
        have hz1 : ((0 : Int) == cs.getD q 0) = false := by rw [beq_eq_false_iff_ne];exact fun h => hz h.symm
        clear HA;generalize cs.getD q 0 = x at cc1 hz1 hz
        go_wp2_with fail
        go_roundw
        case rel => exact ⟨q + 1,by omega,by go_num,HNN.out,by trivial⟩
        case measure => simp [intOf];omega
    · have hf := firstFree_none cs (fun j hj => HA.out j (by omega))
      have HR : Hid (tookAt cs = -1) := by rw [Hid,tookAt,hf,if_neg (by omega)]
      clear hf HA C1
      go_wp2_with fail
      go_ret;exact ⟨ret_int HR.out.symm,rfl⟩
theorem countAt_any (v1 v2 : Value) (cs : List Int) (at_ : Int) (w : World) (h1 : Reads w.heap.size w v1 (cs.map (Value.int .i64))) :
    Calls Tryz.prog 145 #[.agg #[v1,v2],.int .i64 at_] w fun e w' => e = .returned (.int .i64 (countAt cs at_)) /\ Below w.heap.size w w' := by
  obtain ⟨o1,cap1,rfl,m1,c1,-⟩ := h1;simp only [List.length_map] at m1 ⊢;unfold maxLen at m1;by_cases h0 : 0 <= at_
  · by_cases hlt : at_ < (cs.length : Int)
    · obtain ⟨k,rfl⟩ := Int.eq_ofNat_of_zero_le h0
      have hk : k < cs.length := by omega
      have hv : countAt cs (k : Int) = cs.getD k 0 := countAt_of cs k hk;rw [hv];obtain ⟨g1,of1,rfl,q1,cc1⟩ := c1 k _ (getD_some cs k hk);have hne : ¬ g1 = w.heap.size := by omega
      clear c1 hv;generalize cs.getD k 0 = c at *
      go_enter Tryz.func145,Tryz.ntmps145
      go_wp2_with fail
      go_ret;exact ⟨rfl,bw_alloc (Below.refl _ _)⟩
    · have hv : countAt cs at_ = 0 := by unfold countAt;rw [if_neg (by omega)]
      rw [hv];clear c1 hv
      go_enter Tryz.func145,Tryz.ntmps145
      go_wp2_with fail
      go_ret;exact ⟨rfl,bw_alloc (Below.refl _ _)⟩
  · have hv : countAt cs at_ = 0 := by unfold countAt;rw [if_neg (by omega)]
    rw [hv];clear c1 hv
    go_enter Tryz.func145,Tryz.ntmps145
    go_wp2_with fail
    go_ret;exact ⟨rfl,bw_alloc (Below.refl _ _)⟩
set_option maxHeartbeats 800000 in
theorem sameNumbers_any (v : Value) (xs : List Int) (w : World) (hn : xs.length <= 1048576) (h : Reads w.heap.size w v (xs.map (Value.int .i64))) :
    Calls Tryz.prog 195 #[v] w fun e w' => ∃ v' : Value,e = .returned v' /\ w'.ownsRow w.heap.size 2 1 v' xs.length (xs.map (Value.int .i64)) /\ v' ≠ .slice none 0 0 /\ Below w.heap.size w w' := by
  obtain ⟨i0,hi,hz0,hz1,hz2⟩ := info_parts Tryz.infoI64;obtain ⟨o,cap,rfl,hm,hc,hroom⟩ := h;have hl : (xs.map (Value.int .i64)).length = xs.length := by simp
  rw [hl] at hm ⊢;obtain ⟨M,hM,hmk,hown⟩ := made_ints xs.length hn;have own0 := hown w w.heap.size (Nat.le_refl _);have d0 : Below w.heap.size w (w.alloc (.cells M 2)) := bw_alloc (Below.refl _ _)
  have HC : Hid (∀ j u,(xs.map (Value.int .i64))[j]? = some u -> ∃ g off,o = some ⟨g,off,none⟩ /\ (w.alloc (.cells M 2)).cell? ⟨g,off + j,none⟩ = some u) := fun j u hj => by
    obtain ⟨g,off,e,hg,hx⟩ := hc j u hj;exact ⟨g,off,e,(d0.cell (p := ⟨g,off + j,none⟩) hg).trans hx⟩
  obtain ⟨w',hrun,hown2,hu⟩ := run_copy_all (P := Tryz.prog) (w.alloc (.cells M 2)) 24 3 2 Tryz.underlying24 (by rw [hi];simp [hz1]) w.heap.size w.heap.size xs.length xs.length _ (xs.map (Value.int .i64)) own0 o cap hl HC.out (fun u hu => by simp at hu;obtain ⟨a,_,rfl⟩ := hu;rfl);have hb : Below w.heap.size w w' := d0.trans (hu.toBelow (by simp) (Nat.le_refl _));have HO : Hid _ := hown2;clear own0 d0 HC hu hc hl hown hM hown2;have hm8 : xs.length <= 9223372036854775807 := by omega
  go_enter Tryz.func195,Tryz.ntmps195
  go_wp2_with fail
  go_ret;exact ⟨_,rfl,HO.out,by simp,hb⟩
theorem with_list (xs : List Int) (k : Nat) (x : Int) (h : k < xs.length) : (xs.take k).map (Value.int .i64) ++ [Value.int .i64 x] ++ (xs.drop (k + 1)).map (Value.int .i64) = (xs.set k x).map (Value.int .i64) := by
  rw [List.set_eq_take_append_cons_drop,if_pos h];simp
set_option maxHeartbeats 1600000 in
theorem withNumber_any (v : Value) (xs : List Int) (k : Nat) (x : Int) (w : World) (hk : k < xs.length) (hn : xs.length <= 1048576) (h : Reads w.heap.size w v (xs.map (Value.int .i64))) :
    Calls Tryz.prog 235 #[v,.int .i64 k,.int .i64 x] w fun e w' => ∃ v' : Value,e = .returned v' /\ w'.ownsRow w.heap.size 2 1 v' (xs.set k x).length ((xs.set k x).map (Value.int .i64)) /\ v' ≠ .slice none 0 0 /\ Below w.heap.size w w' := by
  obtain ⟨i0,hi,hz0,hz1,hz2⟩ := info_parts Tryz.infoI64;obtain ⟨o,cap,rfl,hm,hc,hroom⟩ := h;have hl : (xs.map (Value.int .i64)).length = xs.length := by simp
  rw [hl] at hm ⊢
  have hc0 : ∃ g off,o = some ⟨g,off,none⟩ /\ g < w.heap.size := by
    obtain ⟨g,off,e,hg,_⟩ := hc k _ (getD_some xs k hk);exact ⟨g,off,e,hg⟩
  obtain ⟨g,off,rfl,hg⟩ := hc0
  have hcell : ∀ j u,(xs.map (Value.int .i64))[j]? = some u -> w.cell? ⟨g,off + j,none⟩ = some u := fun j u hj => by
    obtain ⟨g',off',e,_,hx⟩ := hc j u hj;cases e;exact hx
  rw [hl] at hroom;clear hc;have j0 : (0 : Int) <= (k : Int) := by omega
  have j1 : (k : Int) < (xs.length : Int) := by omega
  have j2 : (k : Int) + 1 <= (xs.length : Int) := by omega
  have j3 : (k : Int) <= (cap : Int) := by omega
  have j4 : k <= cap := by omega
  obtain ⟨A,hA⟩ : ∃ A,A = (xs.take k).map (Value.int .i64) := ⟨_,rfl⟩
  obtain ⟨D,hD⟩ : ∃ D,D = (xs.drop (k + 1)).map (Value.int .i64) := ⟨_,rfl⟩
  have HLEN : Hid (A.length = k * 1) := by rw [Hid,hA];simp;omega
  have HLEN2 : Hid (D.length = (xs.length - (k + 1)) * 1) := by rw [Hid,hD];simp
  have HI : Hid (∀ u ∈ D,u.oneCell' = true) := fun u hu => by rw [hD,List.mem_map] at hu;obtain ⟨a,_,rfl⟩ := hu;rfl
  have HWL : Hid (A ++ [Value.int .i64 x] ++ D = (xs.set k x).map (Value.int .i64)) := by rw [Hid,hA,hD];exact with_list xs k x hk
  have hA1 : ∀ j u,A[j]? = some u -> w.cell? ⟨g,off + j,none⟩ = some u := fun j u hj => by
    refine hcell j u ?_;rw [hA,List.map_take,List.getElem?_take] at hj
    split at hj
    · exact hj
    · cases hj
  have hD1 : ∀ j u,D[j]? = some u -> w.cell? ⟨g,off + (k + 1) + j,none⟩ = some u := fun j u hj => by
    rw [Nat.add_assoc];refine hcell _ u ?_
    rwa [hD,List.map_drop,List.getElem?_drop] at hj
  have d0 : Below w.heap.size w (w.alloc (.cells #[.int .i64 x] 2)) := bw_alloc (Below.refl _ _);have HOLD : Hid (∀ j u,A[j]? = some u -> (w.alloc (.cells #[.int .i64 x] 2)).cell? ((⟨g,off,none⟩ : Addr).add j) = some u) := cells_add fun j u hj => (d0.cell (p := ⟨g,off + j,none⟩) hg).trans (hA1 j u hj)
  have HNEW : Hid (∀ j u,[Value.int .i64 x][j]? = some u -> (w.alloc (.cells #[.int .i64 x] 2)).cell? ((⟨w.heap.size,0,none⟩ : Addr).add j) = some u) := new_one _ _ _;have HM1 : Hid (k + 1 <= maxLen) := by unfold maxLen at hm;rw [Hid];unfold maxLen;omega
  have HB1 : Hid ((k + 1) * 8 <= 140737488355328) := by rw [Hid];omega
  have HG : Hid (k < k + 1) := Nat.lt_succ_self k;have HBS : Hid (w.heap.size <= (w.alloc (.cells #[.int .i64 x] 2)).heap.size) := by rw [Hid];simp
  have HD1 : Hid _ := hD1;clear hA hD hA1 hD1 hcell
  go_enter Tryz.func235,Tryz.ntmps235
  go_wp2_with (at_builtin;refine wpList_append_full rfl _ _ 24 rfl w.heap.size 2 i0 (.int .i64 0) 1 8 Tryz.underlying24 hi hz0 hz1 hz2 rfl ⟨g,off,none⟩ k k A rfl HLEN.out HOLD.out ⟨w.heap.size,0,none⟩ 1 1 [.int .i64 x] rfl rfl HNEW.out HG.out HM1.out HB1.out HBS.out ?_)
  intro v5 w5 own5 grow5 nn5;have OWN5 : Hid (w5.ownsRow w.heap.size 2 1 v5 (k + 1) (A ++ [Value.int .i64 x])) := own5;have d5 : Below w.heap.size w w5 := d0.grown grow5 (by simp) (fun q hq => by cases hq);have NN5 : Hid (v5 ≠ .slice none 0 0) := nn5;obtain ⟨o5,c5,rfl⟩ := own_slice own5;clear own5 grow5 nn5 HOLD HNEW HLEN HM1 HB1 HG HBS d0;have HM2 : Hid (k + 1 + (xs.length - (k + 1)) <= maxLen) := by unfold maxLen at hm;rw [Hid];unfold maxLen;omega
  have HB2 : Hid ((k + 1 + (xs.length - (k + 1))) * 8 <= 140737488355328) := by rw [Hid];omega
  have HSRC : Hid (∀ (ad : Option Addr),(k + 1 < xs.length -> ad = some ⟨g,off + (k + 1),none⟩) -> ∀ j u,D[j]? = some u -> ∃ g off,ad = some ⟨g,off,none⟩ /\ w5.cell? ⟨g,off + j,none⟩ = some u) := fun ad had j u hj => by
    have hj' := (List.getElem?_eq_some_iff.1 hj).1;have hDl := HLEN2.out;exact ⟨g,off + (k + 1),had (by omega),(d5.cell (p := ⟨g,off + (k + 1) + j,none⟩) hg).trans (HD1.out j u hj)⟩
  have HFIN : Hid (∀ (v6 : Value) (w6 : World),w6.ownsRow w.heap.size 2 1 v6 (k + 1 + (xs.length - (k + 1))) (A ++ [Value.int .i64 x] ++ D) -> w6.ownsRow w.heap.size 2 1 v6 (xs.set k x).length ((xs.set k x).map (Value.int .i64))) := fun v6 w6 h => by
    rw [HWL.out] at h;rw [List.length_set]
    rwa [show k + 1 + (xs.length - (k + 1)) = xs.length by omega] at h
  have HBS : Hid (w.heap.size <= w5.heap.size) := d5.size;by_cases hcap : k + 1 = cap
  · subst hcap
    have hx1 : xs.length <= k + 1 := by omega
    have HE0 : Hid (xs.length - (k + 1) = 0) := by rw [Hid];omega
    have HLEN3 : Hid (D.length = 0 * 1) := by rw [Hid,HLEN2.out,HE0.out]
    have HSRC3 : Hid (∀ j u,D[j]? = some u -> ∃ g' off',some (⟨g,off,none⟩ : Addr) = some ⟨g',off',none⟩ /\ w5.cell? ⟨g',off' + j,none⟩ = some u) := HSRC.out _ (fun h => by omega);have HM3 : Hid (k + 1 + 0 <= maxLen) := by have := HM2.out;rwa [HE0.out] at this
    have HB3 : Hid ((k + 1 + 0) * 8 <= 140737488355328) := by have := HB2.out;rwa [HE0.out] at this
    have HFIN3 : Hid (∀ (v6 : Value) (w6 : World),w6.ownsRow w.heap.size 2 1 v6 (k + 1 + 0) (A ++ [Value.int .i64 x] ++ D) -> w6.ownsRow w.heap.size 2 1 v6 (xs.set k x).length ((xs.set k x).map (Value.int .i64))) := by have := HFIN.out;rwa [HE0.out] at this
    clear HSRC HLEN2 HM2 HB2 HFIN
    go_wp2_with (at_builtin;refine wpList_append_reads rfl _ _ 24 rfl w.heap.size 2 i0 (.int .i64 0) 1 8 Tryz.underlying24 hi hz0 hz1 hz2 rfl (by decide) (.slice o5 (k + 1) c5) (k + 1) (A ++ [Value.int .i64 x]) rfl OWN5.out (some ⟨g,off,none⟩) 0 0 D rfl HLEN3.out HSRC3.out HI.out HM3.out HB3.out HBS.out ?_)
    intro v6 w6 own6 grow6 nil6;have HO : Hid _ := HFIN3.out v6 w6 (by simpa using own6);have d6 : Below w.heap.size w w6 := d5.grown grow6 HBS.out (fun q hq => (OWN5.out.lt q hq).1);have NN6 : Hid (v6 ≠ .slice none 0 0) := nil6;clear own6 grow6 nil6
    go_wp2_with fail
    go_ret;exact ⟨v6,rfl,HO.out,NN6.out,d6⟩
  · have hc1 : k + 1 < cap := by omega
    have hc2 : ¬ k + 1 = cap := hcap;have HSRC3 : Hid (∀ j u,D[j]? = some u -> ∃ g' off',some (⟨g,off + (k + 1),none⟩ : Addr) = some ⟨g',off',none⟩ /\ w5.cell? ⟨g',off' + j,none⟩ = some u) := HSRC.out _ (fun _ => rfl);clear HSRC
    go_wp2_with (at_builtin;refine wpList_append_reads rfl _ _ 24 rfl w.heap.size 2 i0 (.int .i64 0) 1 8 Tryz.underlying24 hi hz0 hz1 hz2 rfl (by decide) (.slice o5 (k + 1) c5) (k + 1) (A ++ [Value.int .i64 x]) rfl OWN5.out (some ⟨g,off + (k + 1),none⟩) (xs.length - (k + 1)) (cap - (k + 1)) D rfl HLEN2.out HSRC3.out HI.out HM2.out HB2.out HBS.out ?_)
    intro v6 w6 own6 grow6 nil6;have HO : Hid _ := HFIN.out v6 w6 (by simpa using own6);have d6 : Below w.heap.size w w6 := d5.grown grow6 HBS.out (fun q hq => (OWN5.out.lt q hq).1);have NN6 : Hid (v6 ≠ .slice none 0 0) := nil6;clear own6 grow6 nil6
    go_wp2_with fail
    go_ret;exact ⟨v6,rfl,HO.out,NN6.out,d6⟩
end Go.Proofs.YtaekdfknkgmfbaaGreatDoor
