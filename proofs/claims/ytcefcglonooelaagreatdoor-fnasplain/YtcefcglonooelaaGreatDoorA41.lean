import Derived.Deep.DeepCutAuto
import Derived.Deep.RegionHeld3
import Derived.Laws.CopyOwn
import Derived.BigQuiet
import Derived.Orders
import Derived.WalkKit
import Derived.Test.YtcefcglonooelaaGreatDoorA01
import Derived.Test.YtcefcglonooelaaGreatDoorA02
import Derived.Test.YtcefcglonooelaaGreatDoorA06
import Derived.Test.YtcefcglonooelaaGreatDoorA09
import Derived.Test.YtcefcglonooelaaGreatDoorA11
import Derived.Test.YtcefcglonooelaaGreatDoorA14
import Derived.Test.YtcefcglonooelaaGreatDoorA15
import Derived.Test.YtcefcglonooelaaGreatDoorA25
import Derived.Test.YtcefcglonooelaaGreatDoorA34
import Derived.Test.YtcefcglonooelaaGreatDoorA35
import Derived.Test.YtcefcglonooelaaGreatDoorA37
import Derived.Test.YtcefcglonooelaaGreatDoorA40
namespace Go.Proofs.YtcefcglonooelaaGreatDoor
open Go.RowKit
set_option linter.unusedVariables false
theorem own_box_k {w w' : World} {base b : Nat} {e : TypeId} {size : Nat} {v : Value} {n : Nat} {xs : List Value} {cs : Array Value} {t : TypeId} (h : w.ownsRow base e size v n xs) (k : w.heap[b]? = some (.cells cs t (0,0))) (ht : t ≠ e) (u : Upto b w w') : w'.ownsRow base e size v n xs :=
  own_rng_not h fun g hg hv => u.block g hg fun e => own_not_box h k ht (by rw [hv,e])
theorem OwnK.box {base b : Nat} {w w' : World} {v : Value} {ms : List Pk} {cs : Array Value} {t : TypeId} (h : OwnK base w v ms) (k : w.heap[b]? = some (.cells cs t (0,0))) (h1 : t ≠ 51) (h2 : t ≠ 2) (u : Upto b w w') : OwnK base w' v ms := ⟨own_box_k h.row k h1 u,fun m hm => own_box_k (h.maps m hm) k h2 u⟩
theorem k_end {w W : World} {n : Nat} {x0 x1 v8 : Value} {ms : List Pk} {c v : Int} (k1 : W.heap[n]? = some (.cells #[x0,x1] 30 (0,0))) (own : OwnK w.heap.size W v8 ms) (d : Below w.heap.size w W) (hn : w.heap.size <= n) :
    ((W.setCell ⟨n,0,none⟩ (.int .i64 c)).setCell ⟨n,1,none⟩ (.int .i64 v)).heap[n]? = some (.cells #[.int .i64 c,.int .i64 v] 30 (0,0)) /\ OwnK w.heap.size ((W.setCell ⟨n,0,none⟩ (.int .i64 c)).setCell ⟨n,1,none⟩ (.int .i64 v)) v8 ms /\ Below w.heap.size w ((W.setCell ⟨n,0,none⟩ (.int .i64 c)).setCell ⟨n,1,none⟩ (.int .i64 v)) := by
  obtain ⟨h1,h2⟩ := set_two k1 (.int .i64 c) (.int .i64 v);exact ⟨h1,own.box k1 (by decide) (by decide) h2,d.trans (h2.toBelow d.size hn)⟩
theorem rows_twoK {w : World} {b1 b2 k1 k2 n1 n2 : Nat} {e1 e2 : TypeId} {v1 v2 : Value} {x1 x2 : List Value} (h1 : w.ownsRow b1 e1 k1 v1 n1 x1) (h2 : w.ownsRow b2 e2 k2 v2 n2 x2) (he : e1 ≠ e2) : ∀ g,v1.ownBlock = some g -> v2.ownBlock ≠ some g := by
  intro g hg
  rcases h1.2 with ⟨rfl,_⟩ | ⟨g1,cap1,cur1,rfl,_,hh,_⟩
  · cases hg
  · simp [Value.ownBlock] at hg
    subst hg;intro h
    rcases h2.2 with ⟨rfl,_⟩ | ⟨g2,cap2,cur2,rfl,_,hh2,_⟩
    · cases h
    · simp [Value.ownBlock] at h
      subst h;rw [hh] at hh2;simp at hh2;exact he hh2.2
theorem apart_at9 {ms : List Pk} (h : ApartK ms) (i j : Nat) (hi : i < ms.length) (hj : j < ms.length) (hij : i ≠ j) : ∀ g,ms[i].m.ownBlock = some g -> ms[j].m.ownBlock ≠ some g := by
  have hp := List.pairwise_iff_getElem.1 h;rcases Nat.lt_or_ge i j with q | q
  · exact hp i j hi hj q
  · intro g hg e
    exact hp j i hj hi (by omega) g e hg
theorem apart_insert {ms : List Pk} (h : ApartK ms) (q : Nat) (x : Pk) (hx : ∀ m ∈ ms,∀ g,m.m.ownBlock = some g -> x.m.ownBlock ≠ some g) : ApartK (ms.take q ++ [x] ++ ms.drop q) := by
  unfold ApartK at h ⊢;have h2 : (ms.take q ++ ms.drop q).Pairwise (fun a b => ∀ g,a.m.ownBlock = some g -> b.m.ownBlock ≠ some g) := by rw [List.take_append_drop];exact h
  obtain ⟨p1,p2,p3⟩ := List.pairwise_append.1 h2;refine List.pairwise_append.2 ⟨List.pairwise_append.2 ⟨p1,List.pairwise_singleton _ _,fun a ha b hb => ?_⟩,p2,fun a ha b hb => ?_⟩
  · simp only [List.mem_singleton] at hb
    subst hb;exact hx a (List.mem_of_mem_take ha)
  · rcases List.mem_append.1 ha with ha | ha
    · exact p3 a ha b hb
    · simp only [List.mem_singleton] at ha
      subst ha;intro g hg e;exact hx b (List.mem_of_mem_drop hb) g e hg
theorem ints_flat (xs : List Int) : xs.flatMap intC = xs.map (Value.int .i64) := by
  induction xs with
  | nil => rfl
  | cons a l ih => rw [List.flatMap_cons,ih];rfl
theorem put_pv {ms : List Pk} {l : List Pv} (h : ms.map Pk.pv = l) (x : Pk) : (ms.take (insertAt ((ms.map Pk.pv).map Pv.pb) x.nm) ++ [x] ++ ms.drop (insertAt ((ms.map Pk.pv).map Pv.pb) x.nm)).map Pk.pv = putV l x.pv := by
  rw [List.map_append,List.map_append,List.map_take,List.map_drop,h]
  rfl
end Go.Proofs.YtcefcglonooelaaGreatDoor
namespace Go.Proofs.YtcefcglonooelaaGreatDoor
open Go.RowKit
set_option linter.unusedVariables false
set_option maxRecDepth 100000
theorem five_end {w W : World} {b : Nat} {x0 x1 x2 x3 x4 : Value} {n : Nat} {xs : List Value} {v : Value} (hb : w.heap.size <= b) (k : W.heap[b]? = some (.cells #[x0,x1,x2,x3,x4] 51 (0,0))) (d : Below w.heap.size w W) (o : W.ownsRow w.heap.size 2 1 v n xs) (y0 y1 y2 y3 y4 : Value) :
    (((((W.setCell ⟨b,0,none⟩ y0).setCell ⟨b,1,none⟩ y1).setCell ⟨b,2,none⟩ y2).setCell ⟨b,3,none⟩ y3).setCell ⟨b,4,none⟩ y4).heap[b]? = some (.cells #[y0,y1,y2,y3,y4] 51 (0,0)) /\ (((((W.setCell ⟨b,0,none⟩ y0).setCell ⟨b,1,none⟩ y1).setCell ⟨b,2,none⟩ y2).setCell ⟨b,3,none⟩ y3).setCell ⟨b,4,none⟩ y4).ownsRow w.heap.size 2 1 v n xs /\ Below w.heap.size w (((((W.setCell ⟨b,0,none⟩ y0).setCell ⟨b,1,none⟩ y1).setCell ⟨b,2,none⟩ y2).setCell ⟨b,3,none⟩ y3).setCell ⟨b,4,none⟩ y4) := by
  have u : Upto b W (((((W.setCell ⟨b,0,none⟩ y0).setCell ⟨b,1,none⟩ y1).setCell ⟨b,2,none⟩ y2).setCell ⟨b,3,none⟩ y3).setCell ⟨b,4,none⟩ y4) := (((((Upto.refl _ _).setCell ⟨b,0,none⟩ (.inl rfl) _).setCell ⟨b,1,none⟩ (.inl rfl) _).setCell ⟨b,2,none⟩ (.inl rfl) _).setCell ⟨b,3,none⟩ (.inl rfl) _).setCell ⟨b,4,none⟩ (.inl rfl) _;exact ⟨set_five k y0 y1 y2 y3 y4,own_box_k o k (by decide) u,bw_five d hb y0 y1 y2 y3 y4⟩
set_option maxHeartbeats 1600000 in
theorem writtenPlain_any (xn : ByteArray) (xz : Int) (xm : Value) (xr : List Int) (xf : Bool) (xe : Int) (A : Nat) (z : Int) (w : World) (hA : A < xr.length) (hl : xr.length <= 1048576) (r : Reads w.heap.size w xm (xr.map (Value.int .i64))) :
    Calls Tryz.prog 130 #[.agg #[.string xn,.int .i64 xz,xm,.bool xf,.int .i64 xe],.int .i64 A,.int .i64 z] w fun e w' => ∃ v' : Value,e = .returned (.agg #[.string xn,.int .i64 xz,v',.bool xf,.int .i64 xe]) /\ w'.ownsRow w.heap.size 2 1 v' (xr.set A z).length ((xr.set A z).flatMap intC) /\ Below w.heap.size w w' := by
  have HWN : Hid _ := fun (w : World) (v : Value) h => withNumber_any v xr A z w hA hl h
  obtain ⟨ys,hys⟩ : ∃ ys,xr.set A z = ys := ⟨_,rfl⟩
  rw [hys] at HWN ⊢;clear hys;obtain ⟨om,cm,hmf,-⟩ := id r;subst hmf;obtain ⟨W0,hW0,k0,k1,d0,z0⟩ := box2 w #[.string xn,.int .i64 xz,.slice om (xr.map (Value.int .i64)).length cm,.bool xf,.int .i64 xe] #[.string ⟨#[]⟩,.int .i64 0,.slice none 0 0,.bool false,.int .i64 0] 51 51;have HW0 : Hid (W0 = _) := hW0;have r0 := (r.below d0).mono d0.size;have p2 := at_cell k0 2;clear hW0 z0 r;rw [List.length_map] at *
  go_enter Tryz.func130,Tryz.ntmps130
  go_upto_region 1 with fail
  rw [<- HW0.out];clear HW0
  go_wp2_with fail
  refine (HWN.out _ _ r0).mono ?_;rintro e w1 ⟨v1,rfl,ow1,hn1,b1⟩;obtain ⟨o1,c1,hv1⟩ := own_slice ow1;subst hv1;replace k0 := (b1.block _ (heap_lt k0)).trans k0;replace k1 := (b1.block _ (heap_lt k1)).trans k1;have ow2 : w1.ownsRow w.heap.size 2 1 (.slice o1 ys.length c1) ys.length (ys.flatMap intC) := by rw [ints_flat];exact owns_mono ow1 d0.size
  replace d0 := bw_call d0 b1;have u0 : Upto w.heap.size w1 (w1.setCell ⟨w.heap.size,2,none⟩ (.slice o1 ys.length c1)) := (Upto.refl _ _).setCell ⟨w.heap.size,2,none⟩ (.inl rfl) _;have q2 := at_cell k0 2;have f2 := at_open k0 2;have k0W := set_at k0 2 (.slice o1 ys.length c1);have k1W := (u0.block _ (heap_lt k1) (by omega)).trans k1;have owW := own_box_k ow2 k0 (by decide) u0;have dW := d0.trans (u0.toBelow d0.size (Nat.le_refl _));clear p2 r0 b1 ow1 ow2 hn1 k0 k1 d0 u0
  go_upto_region 2 with fail
  generalize w1.setCell ⟨w.heap.size,2,none⟩ (.slice o1 ys.length c1) = W2 at *;clear q2 f2;have HS : Hid _ := five_end (Nat.le_succ _) k1W dW owW (.string xn) (.int .i64 xz) (.slice o1 ys.length c1) (.bool xf) (.int .i64 xe);obtain ⟨a0,a1,a2,a3,a4⟩ := c5 k0W;obtain ⟨b0,b1,b2,b3,b4⟩ := c5 k1W;have c0 := at_open k1W 0;have c1' := at_open k1W 1;have c2 := at_open k1W 2;have c3 := at_open k1W 3;have c4 := at_open k1W 4;clear k0W k1W dW owW
  go_wp2_with fail
  exact bodyPost_ret (v := .agg #[.string xn,.int .i64 xz,.slice o1 ys.length c1,.bool xf,.int .i64 xe]) (by simp [results,Tryz.results130,go_sem,at_cell HS.out.1]) rfl ⟨_,rfl,HS.out.2.1,HS.out.2.2⟩
end Go.Proofs.YtcefcglonooelaaGreatDoor
namespace Go.Proofs.YtcefcglonooelaaGreatDoor
open Go.RowKit
set_option linter.unusedVariables false
def zerosVB : Array Value := #[.int .i64 0,.int .i64 0,.int .i64 0,.int .i64 0,.int .i64 0,.int .i64 0,.int .i64 0,.int .i64 0,.int .i64 0,.int .i64 0,.int .i64 0,.int .i64 0,.int .i64 0,.int .i64 0,.int .i64 0,.int .i64 0]
def blkL (xs : List Int) : List Int := xs.take 16 ++ List.replicate (16 - xs.length) 0
def blk (xs : List Int) : Array Value := ((blkL xs).map (Value.int .i64)).toArray
theorem blkL_len (xs : List Int) : (blkL xs).length = 16 := by simp [blkL];omega
theorem blk_size (xs : List Int) : (blk xs).size = 16 := by simp [blk,blkL_len]
theorem blk_splice (xs : List Int) : splice (zerosVB.toList) 0 ((xs.take 16).map (Value.int .i64)) = (blkL xs).map (Value.int .i64) := by
  have hz : zerosVB.toList = (List.replicate 16 (0 : Int)).map (Value.int .i64) := rfl;rw [hz];simp only [splice,List.take_zero,List.nil_append,Nat.zero_add,List.length_map,blkL,List.map_append]
  congr 1
  rw [<- List.map_drop,List.drop_replicate,List.length_take]
  congr 2
  omega
def BlkSrc (o : Option Addr) (w : World) (xs : List Int) : Prop := ∀ j x,xs[j]? = some x -> ∃ a,o = some a /\ w.cell? (a.add j) = some (.int .i64 x) /\ a.block < w.heap.size
theorem blk_pos {o : Option Addr} {w W : World} {xs : List Int} {cs : List Value} {p : Option Addr} (hcs : cs = (xs.take 16).map (Value.int .i64)) (h : BlkSrc o w xs) (d : Below w.heap.size w W) : 0 < cs.length -> p = p /\ ∃ ad,o = some ad /\ ∀ j v,cs[j]? = some v -> W.cell? (ad.add j) = some v := fun hp => by
  refine ⟨rfl,?_⟩;have hx : 0 < xs.length := by rw [hcs,List.length_map,List.length_take] at hp;omega
  obtain ⟨a,ha,-,hlt⟩ := h 0 xs[0] (by simp [hx]);refine ⟨a,ha,fun j v hj => ?_⟩;rw [hcs,List.getElem?_map] at hj
  cases hxj : (xs.take 16)[j]? with
  | none => rw [hxj] at hj;cases hj
  | some x =>
    rw [hxj] at hj;simp only [Option.map_some,Option.some.injEq] at hj;subst hj
    have hxx : xs[j]? = some x := by
      rw [List.getElem?_take] at hxj
      split at hxj
      · exact hxj
      · cases hxj
    obtain ⟨a',ha',hc,hl⟩ := h j x hxx;rw [ha] at ha';cases ha';exact (d.cell (p := a.add j) (by unfold Addr.add;split <;> exact hl)).trans hc
theorem infoVB16 : (Tryz.prog.info? 169).map (·.size) = some 16 := by kernel_rfl
set_option maxRecDepth 100000 in
set_option maxHeartbeats 3200000 in
theorem blockOf_any (o : Option Addr) (n cap : Nat) (xs : List Int) (w : World) (hn : xs.length = n) (hm : n <= maxLen) (hsrc : BlkSrc o w xs) :
    Calls Tryz.prog 137 #[.slice o n cap] w fun e w' => e = .returned (.agg (blk xs)) /\ Below w.heap.size w w' := by
  subst hn;obtain ⟨WA,hWA,kA0,kB0,d0,z0⟩ := box2 w #[.int .i64 0,.int .i64 0,.int .i64 0,.int .i64 0,.int .i64 0,.int .i64 0,.int .i64 0,.int .i64 0,.int .i64 0,.int .i64 0,.int .i64 0,.int .i64 0,.int .i64 0,.int .i64 0,.int .i64 0,.int .i64 0] #[.int .i64 0,.int .i64 0,.int .i64 0,.int .i64 0,.int .i64 0,.int .i64 0,.int .i64 0,.int .i64 0,.int .i64 0,.int .i64 0,.int .i64 0,.int .i64 0,.int .i64 0,.int .i64 0,.int .i64 0,.int .i64 0] 169 169;have HKB : Hid (((w.alloc (.cells #[.int .i64 0,.int .i64 0,.int .i64 0,.int .i64 0,.int .i64 0,.int .i64 0,.int .i64 0,.int .i64 0,.int .i64 0,.int .i64 0,.int .i64 0,.int .i64 0,.int .i64 0,.int .i64 0,.int .i64 0,.int .i64 0] 169)).alloc (.cells #[.int .i64 0,.int .i64 0,.int .i64 0,.int .i64 0,.int .i64 0,.int .i64 0,.int .i64 0,.int .i64 0,.int .i64 0,.int .i64 0,.int .i64 0,.int .i64 0,.int .i64 0,.int .i64 0,.int .i64 0,.int .i64 0] 169)).heap[w.heap.size + 1]? = some (.cells #[.int .i64 0,.int .i64 0,.int .i64 0,.int .i64 0,.int .i64 0,.int .i64 0,.int .i64 0,.int .i64 0,.int .i64 0,.int .i64 0,.int .i64 0,.int .i64 0,.int .i64 0,.int .i64 0,.int .i64 0,.int .i64 0] 169 (0,0))) := by rw [Hid,<- hWA];exact kB0
  have HI0 : Hid ((Tryz.prog.info? 169).map (·.size) = some (#[.int .i64 0,.int .i64 0,.int .i64 0,.int .i64 0,.int .i64 0,.int .i64 0,.int .i64 0,.int .i64 0,.int .i64 0,.int .i64 0,.int .i64 0,.int .i64 0,.int .i64 0,.int .i64 0,.int .i64 0,.int .i64 0] : Array Value).size) := infoVB16;have HO0 : Hid ((#[.int .i64 0,.int .i64 0,.int .i64 0,.int .i64 0,.int .i64 0,.int .i64 0,.int .i64 0,.int .i64 0,.int .i64 0,.int .i64 0,.int .i64 0,.int .i64 0,.int .i64 0,.int .i64 0,.int .i64 0,.int .i64 0] : Array Value).all (·.oneCell') = true) := one_cells (List.replicate 16 0) _ rfl;subst hWA;have k1 := setRow_row (cs := #[.int .i64 0,.int .i64 0,.int .i64 0,.int .i64 0,.int .i64 0,.int .i64 0,.int .i64 0,.int .i64 0,.int .i64 0,.int .i64 0,.int .i64 0,.int .i64 0,.int .i64 0,.int .i64 0,.int .i64 0,.int .i64 0]) kB0;have k0 := ((setRow_below (w := (w.alloc (.cells #[.int .i64 0,.int .i64 0,.int .i64 0,.int .i64 0,.int .i64 0,.int .i64 0,.int .i64 0,.int .i64 0,.int .i64 0,.int .i64 0,.int .i64 0,.int .i64 0,.int .i64 0,.int .i64 0,.int .i64 0,.int .i64 0] 169)).alloc (.cells #[.int .i64 0,.int .i64 0,.int .i64 0,.int .i64 0,.int .i64 0,.int .i64 0,.int .i64 0,.int .i64 0,.int .i64 0,.int .i64 0,.int .i64 0,.int .i64 0,.int .i64 0,.int .i64 0,.int .i64 0,.int .i64 0] 169)) (B := w.heap.size + 1) (cs := #[.int .i64 0,.int .i64 0,.int .i64 0,.int .i64 0,.int .i64 0,.int .i64 0,.int .i64 0,.int .i64 0,.int .i64 0,.int .i64 0,.int .i64 0,.int .i64 0,.int .i64 0,.int .i64 0,.int .i64 0,.int .i64 0]) (Nat.le_refl _)).block w.heap.size (by omega)).trans kA0;have d1 : Below w.heap.size w (((w.alloc (.cells #[.int .i64 0,.int .i64 0,.int .i64 0,.int .i64 0,.int .i64 0,.int .i64 0,.int .i64 0,.int .i64 0,.int .i64 0,.int .i64 0,.int .i64 0,.int .i64 0,.int .i64 0,.int .i64 0,.int .i64 0,.int .i64 0] 169)).alloc (.cells #[.int .i64 0,.int .i64 0,.int .i64 0,.int .i64 0,.int .i64 0,.int .i64 0,.int .i64 0,.int .i64 0,.int .i64 0,.int .i64 0,.int .i64 0,.int .i64 0,.int .i64 0,.int .i64 0,.int .i64 0,.int .i64 0] 169)).setRow (w.heap.size + 1) #[.int .i64 0,.int .i64 0,.int .i64 0,.int .i64 0,.int .i64 0,.int .i64 0,.int .i64 0,.int .i64 0,.int .i64 0,.int .i64 0,.int .i64 0,.int .i64 0,.int .i64 0,.int .i64 0,.int .i64 0,.int .i64 0]) := d0.trans (setRow_below (by omega))
  obtain ⟨cs,hcs⟩ : ∃ cs,cs = (xs.take 16).map (Value.int .i64) := ⟨_,rfl⟩
  have HCS : Hid (cs = (xs.take 16).map (Value.int .i64)) := hcs;have HLN : Hid (cs.length = Nat.min xs.length 16) := by rw [Hid,hcs,List.length_map,List.length_take];exact Nat.min_comm _ _
  have H1 : Hid (∀ v ∈ cs,v.oneCell' = true) := fun v hv => by rw [hcs] at hv;obtain ⟨x,_,rfl⟩ := List.mem_map.1 hv;rfl
  have HFIT : Hid (0 + cs.length <= (zerosVB.toList).length) := by rw [Hid,HLN.out];show 0 + min xs.length 16 <= 16;omega
  have K1 : Hid ((((w.alloc (.cells #[.int .i64 0,.int .i64 0,.int .i64 0,.int .i64 0,.int .i64 0,.int .i64 0,.int .i64 0,.int .i64 0,.int .i64 0,.int .i64 0,.int .i64 0,.int .i64 0,.int .i64 0,.int .i64 0,.int .i64 0,.int .i64 0] 169)).alloc (.cells #[.int .i64 0,.int .i64 0,.int .i64 0,.int .i64 0,.int .i64 0,.int .i64 0,.int .i64 0,.int .i64 0,.int .i64 0,.int .i64 0,.int .i64 0,.int .i64 0,.int .i64 0,.int .i64 0,.int .i64 0,.int .i64 0] 169)).setRow (w.heap.size + 1) #[.int .i64 0,.int .i64 0,.int .i64 0,.int .i64 0,.int .i64 0,.int .i64 0,.int .i64 0,.int .i64 0,.int .i64 0,.int .i64 0,.int .i64 0,.int .i64 0,.int .i64 0,.int .i64 0,.int .i64 0,.int .i64 0]).heap[w.heap.size + 1]? = some (.cells zerosVB.toList.toArray 169 (0,0))) := k1
  have K0 : Hid ((((w.alloc (.cells #[.int .i64 0,.int .i64 0,.int .i64 0,.int .i64 0,.int .i64 0,.int .i64 0,.int .i64 0,.int .i64 0,.int .i64 0,.int .i64 0,.int .i64 0,.int .i64 0,.int .i64 0,.int .i64 0,.int .i64 0,.int .i64 0] 169)).alloc (.cells #[.int .i64 0,.int .i64 0,.int .i64 0,.int .i64 0,.int .i64 0,.int .i64 0,.int .i64 0,.int .i64 0,.int .i64 0,.int .i64 0,.int .i64 0,.int .i64 0,.int .i64 0,.int .i64 0,.int .i64 0,.int .i64 0] 169)).setRow (w.heap.size + 1) #[.int .i64 0,.int .i64 0,.int .i64 0,.int .i64 0,.int .i64 0,.int .i64 0,.int .i64 0,.int .i64 0,.int .i64 0,.int .i64 0,.int .i64 0,.int .i64 0,.int .i64 0,.int .i64 0,.int .i64 0,.int .i64 0]).heap[w.heap.size]? = some (.cells zerosVB 169 (0,0)) /\ Below w.heap.size w (((w.alloc (.cells #[.int .i64 0,.int .i64 0,.int .i64 0,.int .i64 0,.int .i64 0,.int .i64 0,.int .i64 0,.int .i64 0,.int .i64 0,.int .i64 0,.int .i64 0,.int .i64 0,.int .i64 0,.int .i64 0,.int .i64 0,.int .i64 0] 169)).alloc (.cells #[.int .i64 0,.int .i64 0,.int .i64 0,.int .i64 0,.int .i64 0,.int .i64 0,.int .i64 0,.int .i64 0,.int .i64 0,.int .i64 0,.int .i64 0,.int .i64 0,.int .i64 0,.int .i64 0,.int .i64 0,.int .i64 0] 169)).setRow (w.heap.size + 1) #[.int .i64 0,.int .i64 0,.int .i64 0,.int .i64 0,.int .i64 0,.int .i64 0,.int .i64 0,.int .i64 0,.int .i64 0,.int .i64 0,.int .i64 0,.int .i64 0,.int .i64 0,.int .i64 0,.int .i64 0,.int .i64 0])) := ⟨k0,d1⟩
  unfold maxLen at hm;clear hcs kA0 kB0 k1 k0 d1 d0 z0;have j0 : (Tryz.prog.info? 2).map (·.size) = some 1 := by kernel_rfl
  go_enter Tryz.func137,Tryz.ntmps137
  go_wp2_with (first | (with_reducible refine wpList_store_arr rfl _ _ 169 rfl (w.heap.size + 1) rfl #[.int .i64 0,.int .i64 0,.int .i64 0,.int .i64 0,.int .i64 0,.int .i64 0,.int .i64 0,.int .i64 0,.int .i64 0,.int .i64 0,.int .i64 0,.int .i64 0,.int .i64 0,.int .i64 0,.int .i64 0,.int .i64 0] rfl #[.int .i64 0,.int .i64 0,.int .i64 0,.int .i64 0,.int .i64 0,.int .i64 0,.int .i64 0,.int .i64 0,.int .i64 0,.int .i64 0,.int .i64 0,.int .i64 0,.int .i64 0,.int .i64 0,.int .i64 0,.int .i64 0] 169 HKB.out HI0.out rfl HO0.out ?_) | (with_reducible refine wpList_copy_splice rfl _ _ 37 37 rfl 2 Tryz.underlying37 j0 _ _ _ _ _ _ rfl rfl (w.heap.size + 1) 0 zerosVB.toList 169 K1.out cs HLN.out (blk_pos HCS.out hsrc K0.out.2) HFIT.out H1.out (w.heap.size + 1) _ (Below.refl _ _) (Nat.le_refl _) ?_))
  intro w2 HG2 hB2
  have hrow : w2.heap[w.heap.size + 1]? = some (.cells (blk xs) 169 (0,0)) := by
    have h := HG2.out;rw [HCS.out,blk_splice] at h;exact h
  have hk0 := (hB2.block w.heap.size (by omega)).trans K0.out.1;have hb2 := K0.out.2.trans (hB2.mono (by omega));have HI : Hid ((Tryz.prog.info? 169).map (·.size) = some (blk xs).size) := by rw [Hid,blk_size];exact infoVB16
  have HZ : Hid (zerosVB.size = (blk xs).size) := by rw [Hid,blk_size];rfl
  have H1' : Hid ((blk xs).all (·.oneCell') = true) := one_cells (blkL xs) _ rfl;have HROW : Hid _ := hrow;have HK0 : Hid _ := hk0;have hbS : Below w.heap.size w (w2.setRow w.heap.size (blk xs)) := hb2.trans (setRow_below (Nat.le_refl _));have hrow' := setRow_row (cs := blk xs) hk0;have HLD : Hid _ := run_loadVar_row (P := Tryz.prog) _ w.heap.size 169 169 (blk xs) (0,0) _ hrow' Tryz.underlying169 rfl HI.out;clear hrow hk0 hrow' HG2 hB2 hb2
  go_wp2_with (first | (with_reducible refine wpList_load_arr rfl _ 169 rfl (w.heap.size + 1) rfl (blk xs) 169 (0,0) HROW.out _ Tryz.underlying169 rfl HI.out ?_) | (with_reducible refine wpList_store_arr rfl _ _ 169 rfl w.heap.size rfl (blk xs) rfl zerosVB 169 HK0.out HI.out HZ.out H1'.out ?_))
  refine bodyPost_ret (v := .agg (blk xs)) ?_ rfl ⟨rfl,hbS⟩;simp [results,Tryz.results137,asAddr,Act.put,HLD.out]
end Go.Proofs.YtcefcglonooelaaGreatDoor
namespace Go.Proofs.YtcefcglonooelaaGreatDoor
open Go.RowKit
set_option linter.unusedVariables false
set_option maxRecDepth 100000
theorem filter_le' {p q : Nat -> Bool} : ∀ (l : List Nat),(∀ x ∈ l,q x = true -> p x = true) -> (l.filter q).length <= (l.filter p).length
  | [],_ => Nat.le_refl _
  | x :: l,h => by
    have ih := filter_le' l (fun y hy => h y (List.mem_cons_of_mem _ hy));have hx := h x (List.mem_cons_self ..);rw [List.filter_cons,List.filter_cons];cases hq : q x
    · cases hp : p x
      · simpa using ih
      · simp only [Bool.false_eq_true,if_false,if_true,List.length_cons];omega
    · rw [hx hq]
      simp only [if_true,List.length_cons];omega
theorem filter_lt' {p q : Nat -> Bool} {i : Nat} (hp : p i = true) (hq : q i = false) : ∀ (l : List Nat),(∀ x ∈ l,q x = true -> p x = true) -> i ∈ l -> (l.filter q).length < (l.filter p).length
  | [],_,h => by simp at h
  | x :: l,hpq,h => by
    have hle := filter_le' l (fun y hy => hpq y (List.mem_cons_of_mem _ hy));rw [List.filter_cons,List.filter_cons];rcases List.mem_cons.1 h with rfl | h'
    · rw [hp,hq]
      simp only [Bool.false_eq_true,if_false,if_true,List.length_cons];omega
    · have ih := filter_lt' hp hq l (fun y hy => hpq y (List.mem_cons_of_mem _ hy)) h'
      have hx := hpq x (List.mem_cons_self ..);cases hq2 : q x
      · cases hp2 : p x
        · simpa using ih
        · simp only [Bool.false_eq_true,if_false,if_true,List.length_cons];omega
      · rw [hx hq2]
        simp only [if_true,List.length_cons];omega
section
variable {P : Program} {ops : Array Oper} {Q : Exit -> Act -> World -> Prop} {md : Region.Mode}
theorem ready_mem {L : Array Bool} {i : Nat} (h : i ∈ Region.ready md ops L) : i < ops.size /\ L.getD i true = false /\ ∃ o,ops[i]? = some o /\ ∀ e ∈ o.after,Region.binds md e = true -> L.getD e.on false = true := by
  simp only [Region.ready,List.mem_filter,List.mem_range,Bool.and_eq_true,Bool.not_eq_true'] at h;obtain ⟨h1,h2,h3⟩ := h;refine ⟨h1,h2,ops[i],Array.getElem?_eq_getElem h1,fun e he hb => ?_⟩;rw [Array.getElem?_eq_getElem h1] at h3;simp only [Option.map_some,Option.getD_some,Array.all_eq_true_iff_forall_mem] at h3;have := h3 e he;rw [hb] at this
  simpa using this
def depB (md : Region.Mode) (ops : Array Oper) (i k : Nat) : Bool := ((ops[i]?).map (fun o => o.after.any (fun e => e.on == k && Region.binds md e))).getD false
def Down (md : Region.Mode) (ops : Array Oper) (L : Array Bool) : Prop := ∀ i k,L.getD i false = true -> depB md ops i k = true -> L.getD k false = true
theorem ready_dep {L : Array Bool} {i k : Nat} (h : i ∈ Region.ready md ops L) (hk : depB md ops i k = true) : L.getD k false = true := by
  obtain ⟨-,-,o,ho,hd⟩ := ready_mem h;unfold depB at hk;rw [ho] at hk;simp only [Option.map_some,Option.getD_some,Array.any_eq_true'] at hk;obtain ⟨e,he,hk⟩ := hk;simp only [Bool.and_eq_true,beq_iff_eq] at hk;rw [<- hk.1];exact hd e he hk.2
theorem Down.step {L : Array Bool} {i : Nat} (h : Down md ops L) (hz : L.size = ops.size) (hi : i ∈ Region.ready md ops L) : Down md ops (L.setIfInBounds i true) := fun j k hj hk => by
  have up : ∀ k,L.getD k false = true -> (L.setIfInBounds i true).getD k false = true := fun k hk => by
    by_cases e : i = k
    · subst e
      have := (ready_mem hi).1;simp [Array.getD_eq_getD_getElem?,hz,this]
    · simpa [Array.getD_eq_getD_getElem?,e] using hk
  by_cases e : i = j
  · subst e
    exact up k (ready_dep hi hk)
  · exact up k (h j k (by simpa [Array.getD_eq_getD_getElem?,e] using hj) hk)
theorem not_done {L : Array Bool} {i : Nat} (hn : L.getD i true = false) : L.getD i false = false := by
  simp only [Array.getD_eq_getD_getElem?] at hn ⊢
  cases hL : L[i]? with
  | none => rw [hL] at hn;simp at hn
  | some b => rw [hL] at hn;simpa using hn
def backB (md : Region.Mode) (ops : Array Oper) : Bool := (List.range ops.size).all (fun i => ((ops[i]?).map (fun o => o.after.toList.all (fun e => !Region.binds md e || decide (e.on < i)))).getD false)
theorem all_done {L : Array Bool} (hz : L.size = ops.size) (hr : Region.ready md ops L = []) (hb : backB md ops = true) : ∀ i,i < ops.size -> L.getD i false = true := by
  intro i
  induction i using Nat.strongRecOn with
  | _ i ih =>
    intro hi;refine Classical.byContradiction fun hc => ?_
    have hni : L.getD i true = false := by
      simp only [Array.getD_eq_getD_getElem?] at hc ⊢;rw [Array.getElem?_eq_getElem (by omega)] at hc ⊢
      simpa using hc
    have hm : i ∈ Region.ready md ops L := by
      simp only [Region.ready,List.mem_filter,List.mem_range,Bool.and_eq_true,Bool.not_eq_true'];refine ⟨hi,hni,?_⟩;rw [Array.getElem?_eq_getElem hi];simp only [Option.map_some,Option.getD_some,Array.all_eq_true_iff_forall_mem];intro e he;unfold backB at hb;rw [List.all_eq_true] at hb;have h1 := hb i (List.mem_range.2 hi);rw [Array.getElem?_eq_getElem hi] at h1;simp only [Option.map_some,Option.getD_some,List.all_eq_true] at h1;have h2 := h1 e (by simpa using he);cases hbi : Region.binds md e
      · rfl
      · rw [hbi] at h2
        have h3 : e.on < i := by simpa using h2
        rw [ih e.on h3 (by omega)]
        rfl
    rw [hr] at hm;simp at hm
theorem wpAny_inv {I : Array Bool -> Act -> World -> Prop} (hs : ∀ L a x i,L.size = ops.size -> Down md ops L -> i ∈ Region.ready md ops L -> I L a x -> wpOp P ops Q i (I (L.setIfInBounds i true)) a x) (he : ∀ L a x,L.size = ops.size -> Down md ops L -> Region.ready md ops L = [] -> I L a x -> Q .normal a x) :
    ∀ (fuel : Nat) (L : Array Bool) (a : Act) (x : World),L.size = ops.size -> Down md ops L -> ((List.range ops.size).filter (fun i => !L.getD i true)).length <= fuel -> I L a x -> wpAny P md ops Q fuel L a x := by
  intro fuel
  induction fuel with
  | zero =>
    intro L a x hz hD hc h
    have hr : Region.ready md ops L = [] := by
      rw [List.eq_nil_iff_forall_not_mem];intro i hi;obtain ⟨h1,h2,-⟩ := ready_mem hi
      have : i ∈ (List.range ops.size).filter (fun i => !L.getD i true) := by
        rw [List.mem_filter];exact ⟨List.mem_range.2 h1,by rw [h2];rfl⟩
      rw [List.length_eq_zero_iff.1 (Nat.le_zero.1 hc)] at this;simp at this
    exact ⟨hr,he L a x hz hD hr h⟩
  | succ fuel ih =>
    intro L a x hz hD hc h;refine ⟨fun hr => he L a x hz hD hr h,fun i hi => wpOp_mono (fun a' x' h' => ih _ a' x' (by rw [Array.size_setIfInBounds];exact hz) (hD.step hz hi) ?_ h') (hs L a x i hz hD hi h)⟩;obtain ⟨h1,h2,-⟩ := ready_mem hi
    have hlt := filter_lt' (p := fun j => !L.getD j true) (q := fun j => !(L.setIfInBounds i true).getD j true) (i := i) (by simp only [h2];rfl) (by simp only [Array.getD_eq_getD_getElem?,Array.getElem?_setIfInBounds_self,hz,h1];simp) (List.range ops.size) (fun j _ hj => by
      by_cases e : i = j
      · subst e
        simp only [Array.getD_eq_getD_getElem?,Array.getElem?_setIfInBounds_self,hz,h1] at hj;simp at hj
      · simp only [Array.getD_eq_getD_getElem?,Array.getElem?_setIfInBounds,e,if_false] at hj ⊢
        exact hj) (List.mem_range.2 h1)
    omega
theorem wp_region_inv {I : Array Bool -> Act -> World -> Prop} {id : Nat} {a : Act} {w : World} (hm : P.follows .mixedOrders = true) (h0 : I (Array.replicate ops.size false) a w.drew)
    (hs : ∀ L a x i,L.size = ops.size -> Down .any ops L -> i ∈ Region.ready .any ops L -> I L a x -> wpOp P ops Q i (I (L.setIfInBounds i true)) a x) (he : ∀ L a x,L.size = ops.size -> Down .any ops L -> Region.ready .any ops L = [] -> I L a x -> Q .normal a x) : (Code.region id ops true).wp P Q a w :=
  wp_region_any hm (wpAny_inv hs he ops.size _ a _ (by simp) (fun i k hi => by rw [Array.getD_eq_getD_getElem?,Array.getElem?_replicate] at hi;split at hi <;> simp at hi) (by refine Nat.le_trans (List.length_filter_le ..) ?_;simp) h0)
end
end Go.Proofs.YtcefcglonooelaaGreatDoor
