import Derived.Deep.DeepCutAuto
import Derived.Deep.RegionHeld3
import Derived.Test.YtaekdfknkgmfbaaGreatDoorM09
import Derived.Test.YtaekdfknkgmfbaaGreatDoorM13
import Derived.Test.YtaekdfknkgmfbaaGreatDoorM24
import Derived.Test.YtaekdfknkgmfbaaGreatDoorM25
import Derived.Test.YtaekdfknkgmfbaaGreatDoorM30
import Derived.Test.YtaekdfknkgmfbaaGreatDoorM31
namespace Go.Proofs.YtaekdfknkgmfbaaGreatDoor
open Go.RowKit
set_option linter.unusedVariables false
set_option maxRecDepth 100000
theorem OwnB.at {base : Nat} {w : World} {vb : Value} {bks : List Bk} (h : OwnB base w vb bks) (i : Nat) (hi : i < bks.length) : ∃ g cap,vb = .slice (some ⟨g,0,none⟩) bks.length cap := by
  obtain ⟨n,hn1⟩ : ∃ n,bks.length = n + 1 := ⟨bks.length - 1,by omega⟩
  have hr := h.row;rw [hn1] at hr ⊢;exact owns_form hr
theorem apart_keep {bks : List Bk} (h : ApartM bks) (i : Nat) (hi : i < bks.length) : ∀ j (hj : j < bks.length),j ≠ i -> ∀ g,bks[i].m.ownBlock = some g -> bks[j].m.ownBlock ≠ some g := fun j hj hne g hg => apart_at h i j hi hj (fun e => hne e.symm) g hg
theorem apart_new {base : Nat} {w : World} {vb : Value} {bks : List Bk} (h : OwnB base w vb bks) {m : Value} {B : Nat} (hB : w.heap.size <= B) (hm : ∀ g,m.ownBlock = some g -> B <= g) (i : Nat) : ∀ j (hj : j < bks.length),j ≠ i -> ∀ g,m.ownBlock = some g -> bks[j].m.ownBlock ≠ some g := fun j hj _ g hg hx => by
  have h1 := ((h.maps _ (List.getElem_mem hj)).lt g hx).2;have h2 := hm g hg
  omega
set_option maxHeartbeats 6400000 in
theorem attached_any (base i : Nat) (v1 v2 vb : Value) (cs ps : List Int) (bks : List Bk) (w : World) (hbase : base <= w.heap.size) (hi : i < bks.length) (hl : bks.length <= 6) (hep : 0 <= bks[i].ep /\ bks[i].ep <= 1000) (own : OwnS base w v1 v2 vb cs ps bks) :
    Calls Tryz.prog 189 #[.agg #[v1,v2,vb],.int .i64 i] w fun e w' => ∃ ub : Value,e = .returned (.tuple #[.agg #[v1,v2,ub],.int .i64 (bks[i].ep + 1)]) /\ OwnS base w' v1 v2 ub cs ps (bks.set i ⟨bks[i].nm,bks[i].sz,bks[i].m,bks[i].rs,bks[i].fx,bks[i].ep + 1⟩) /\ Below w.heap.size w w' := by
  obtain ⟨o1,k1,o2,k2,ob,kb,rfl,rfl,rfl⟩ := own.forms;obtain ⟨g,cap,hvb⟩ := own.b.at i hi;cases hvb;obtain ⟨W0,hW0,kA,kR,d0,z0⟩ := box2 w #[.slice o1 cs.length k1,.slice o2 ps.length k2,.slice (some ⟨g,0,none⟩) bks.length kb] #[.slice none 0 0,.slice none 0 0,.slice none 0 0] 29 29;have own0 := own.below d0;have hmi := own0.b.maps _ (List.getElem_mem hi);have hap := apart_keep own0.a i hi;obtain ⟨⟨a0,a1,a2,a3,a4⟩,-⟩ := own_five own0.b.row i hi
  obtain ⟨x,hx⟩ : ∃ x,bks[i] = x := ⟨_,rfl⟩
  rw [hx] at hep hmi hap a0 a1 a2 a3 a4 ⊢;clear hx;obtain ⟨xn,xs,xm,xr,xf,xe⟩ := x;simp only at hep hmi hap a0 a1 a2 a3 a4 ⊢;obtain ⟨om,cm,hxm⟩ := own_slice hmi;subst hxm;obtain ⟨W1,hW1,kB,d1,z1⟩ := box1 W0 #[.string xn,.int .i64 xs,.slice om xr.length cm,.bool xf,.int .i64 (xe + 1)] 48;have hW1b := hW1;rw [hW0] at hW1b;have HW1 : Hid (W1 = _) := hW1b;have pA := at_cell kA 2;have own1 : OwnS base W1.drew _ _ _ cs ps bks := (own0.below d1).below ((Below.refl _ _).drew);have hm1 : W1.drew.ownsRow base 112 3 (.slice om xr.length cm) xr.length (xr.flatMap runC) := owns_below (owns_below hmi d1) ((Below.refl _ _).drew);have kA1 := (d1.block _ (heap_lt kA)).trans kA;have kR1 := (d1.block _ (heap_lt kR)).trans kR;have S0 : W1.drew.cell? ⟨w.heap.size,0,none⟩ = some (.slice o1 cs.length k1) := at_cell kA1 0;have S1 : W1.drew.cell? ⟨w.heap.size,1,none⟩ = some (.slice o2 ps.length k2) := at_cell kA1 1;have S2 : W1.drew.cell? ⟨w.heap.size,2,none⟩ = some (.slice (some ⟨g,0,none⟩) bks.length kb) := at_cell kA1 2;rw [z0] at kB;have T0 : W1.drew.cell? ⟨w.heap.size + 1 + 1,0,none⟩ = some (.string xn) := at_cell kB 0;have T1 : W1.drew.cell? ⟨w.heap.size + 1 + 1,1,none⟩ = some (.int .i64 xs) := at_cell kB 1;have T2 : W1.drew.cell? ⟨w.heap.size + 1 + 1,2,none⟩ = some (.slice om xr.length cm) := at_cell kB 2;have T3 : W1.drew.cell? ⟨w.heap.size + 1 + 1,3,none⟩ = some (.bool xf) := at_cell kB 3;have T4 : W1.drew.cell? ⟨w.heap.size + 1 + 1,4,none⟩ = some (.int .i64 (xe + 1)) := at_cell kB 4;have dW := bw_call d0 d1;have zz : w.heap.size + 1 + 1 < W1.heap.size := by omega
  have zd : W1.drew.heap.size = W1.heap.size := rfl;have hb1 : base <= W1.drew.heap.size := by have := d0.size;have := d1.size;omega
  have i0 : (0 : Int) <= (i : Int) := by omega
  have i1 : (i : Int) < (bks.length : Int) := by omega
  have we : IntKind.i64.wrap (xe + 1) = xe + 1 := by rw [IntKind.wrap_i64];omega
  have HAP : Hid _ := hap;rw [hW0] at pA a0 a1 a2 a3 a4;clear hW1 hW1b z1 own own0 hmi d1 kA kR hap hW0 z0
  go_enter Tryz.func189,Tryz.ntmps189
  go_upto_region 3 with fail
  rw [<- HW1.out];clear HW1 pA a0 a1 a2 a3 a4
  go_region_law (go_simp;go_at_call 222;refine (putBook_any base i _ _ _ cs ps bks ⟨xn,xs,.slice om xr.length cm,xr,xf,xe + 1⟩ _ hb1 hi hl own1 hm1 HAP.out).mono ?_;rintro e w6 ⟨ub,rfl,ow,b6⟩;obtain ⟨_,_,_,_,o6,c6,-,-,hub⟩ := ow.forms;have kB6 := (b6.block _ (show w.heap.size + 1 + 1 < W1.heap.size by omega)).trans kB;have U4 := at_cell kB6 4;have kR6 := (b6.block _ (heap_lt kR1)).trans kR1;have q0 := at_cell kR6 0;have q1 := at_cell kR6 1;have q2 := at_cell kR6 2;have f0 := at_open kR6 0;have f1 := at_open kR6 1;have f2 := at_open kR6 2;dsimp only)
  all_goals
    rw [List.length_set] at hub;subst hub;have HS : Hid _ := shelf_put (w := w) kR6 (by omega) (bw_call (bw_drew dW) b6) (.slice o1 cs.length k1) (.slice o2 ps.length k2) (.slice o6 bks.length c6);have HF : Hid _ := OwnS.answer ow kR6 HS.out.2.1;clear ow b6 kB6 kR6 U4 own1 hm1 kA1 kR1 S0 S1 S2 T0 T1 T2 T3 T4 kB dW
    go_wp2_with fail
    exact bodyPost_ret (v := .tuple #[.agg #[.slice o1 cs.length k1,.slice o2 ps.length k2,.slice o6 bks.length c6],.int .i64 (xe + 1)]) (by simp [results,Tryz.results189,go_sem,at_cell HS.out.1]) rfl ⟨_,rfl,⟨HF.out.1,HF.out.2,HF.out.3⟩,HS.out.2.2⟩
set_option maxHeartbeats 3200000 in
theorem valueAt_any (base i : Nat) (place : Int) (v1 v2 vb : Value) (cs ps : List Int) (bks : List Bk) (w : World) (hi : i < bks.length) (hfit : FitRuns bks[i].rs) (hpg : pageOf bks[i].rs place < (ps.length : Int)) (hpm : -1 <= pageOf bks[i].rs place) (own : OwnS base w v1 v2 vb cs ps bks) :
    Calls Tryz.prog 163 #[.agg #[v1,v2,vb],.int .i64 i,.int .i64 place] w fun e w' => e = .returned (.int .i64 (if pageOf bks[i].rs place < 0 then 0 else ps.getD (pageOf bks[i].rs place).toNat 0)) /\ Below w.heap.size w w' := by
  obtain ⟨o1,k1,o2,k2,ob,kb,rfl,rfl,rfl⟩ := own.forms;obtain ⟨g,cap,hvb⟩ := own.b.at i hi;cases hvb;obtain ⟨W0,hW0,kA,d0,z0⟩ := box1 w #[.slice o1 cs.length k1,.slice o2 ps.length k2,.slice (some ⟨g,0,none⟩) bks.length kb] 29;have HW0 : Hid (W0 = _) := hW0;have own0 := own.below d0;have hmi := own0.b.maps _ (List.getElem_mem hi);obtain ⟨⟨a0,a1,a2,a3,a4⟩,-⟩ := own_five own0.b.row i hi;have rp := own0.p.reads.p
  obtain ⟨x,hx⟩ : ∃ x,bks[i] = x := ⟨_,rfl⟩
  rw [hx] at hfit hpg hpm hmi a2 ⊢;clear hx a0 a1 a3 a4;obtain ⟨xn,xs,xm,xr,xf,xe⟩ := x;simp only at hfit hpg hpm hmi a2 ⊢;obtain ⟨om,cm,hxm⟩ := own_slice hmi;subst hxm;have rm := ReadsR.of_own runC_len hmi;have pA := at_cell kA 2;have i0 : (0 : Int) <= (i : Int) := by omega
  have i1 : (i : Int) < (bks.length : Int) := by omega
  rw [hW0] at pA a2;clear hW0 z0 own own0 hmi
  go_enter Tryz.func163,Tryz.ntmps163
  go_wp2_with fail
  rw [<- HW0.out];clear HW0 pA a2;refine (implPageOf_any _ xr place _ hfit rm).mono ?_
  obtain ⟨p,hpp⟩ : ∃ p,pageOf xr place = p := ⟨_,rfl⟩
  have HPP : Hid (pageOf xr place = p) := hpp;rw [hpp] at hpg hpm ⊢;clear hpp;rintro e w1 ⟨rfl,b1⟩;replace kA := (b1.block _ (heap_lt kA)).trans kA;have rp1 := (rp.below b1).mono b1.size;replace d0 := bw_call d0 b1;clear rm rp b1;by_cases hp : p < 0
  · obtain rfl : p = -1 := by omega
    clear rp1 kA hp hpg hpm
    go_wp2_with fail
    go_ret
    any_goals (exfalso;have hq := HPP.out;omega)
    exact ⟨ret_int (by first | (rw [HPP.out];rfl) | rfl | simp [HPP.out]),d0⟩
  · obtain ⟨k,rfl⟩ := Int.eq_ofNat_of_zero_le (show 0 <= p by omega)
    have hk : k < ps.length := by omega
    obtain ⟨_,_,e1,-,c1,-⟩ := rp1;simp only [List.length_map] at e1;cases e1;obtain ⟨gp,off,hgp,-,cc⟩ := c1 k _ (getD_some ps k hk);subst hgp;have q1 := at_cell kA 1;have hne : ((k : Int) == -1) = false := by rw [beq_eq_false_iff_ne];omega
    have j0 : (0 : Int) <= (k : Int) := by omega
    have j1 : (k : Int) < (ps.length : Int) := by omega
    clear c1 kA hp hpg hpm
    go_wp2_with fail
    all_goals first
      | (exfalso;have hq := HPP.out;omega)
      | (refine bodyPost_ret (v := .int .i64 (ps[k]'hk)) (by first | simp [results,Tryz.results163,go_sem] | rfl) rfl ⟨ret_int ?_,d0⟩
         have hq := HPP.out
         simp [hq,hk])
end Go.Proofs.YtaekdfknkgmfbaaGreatDoor
namespace Go.Proofs.YtaekdfknkgmfbaaGreatDoor
open Go.RowKit
set_option linter.unusedVariables false
theorem ShSt.upto {base b c : Nat} {w w' : World} {v1 v2 vb : Value} {bks : List Bk} {s : Sf} (h : ShSt base b w v1 v2 vb bks s) (u : Upto c w w') (hc : c < base) : ShSt base b w' v1 v2 vb bks s :=
  ⟨(u.block b (heap_lt h.box) (fun e => by have := h.lo;omega)).trans h.box,h.lo,h.pool.upto u hc,⟨ownsRow_upto h.books.row u hc,fun x hx => ownsRow_upto (h.books.maps x hx) u hc⟩,h.eq⟩
structure L8 (c : Nat) (x : Option Addr) (len cap base b : Nat) (w W : World) (v1 v2 vb : Value) (bks : List Bk) (s : Sf) : Prop where
  st : ShSt base b W v1 v2 vb bks s
  inv : ShInv s
  kR : W.heap[w.heap.size]? = some (.cells #[.slice none 0 0,.slice none 0 0,.slice none 0 0] 29 (0,0))
  kc : Cur W c x len cap
  u : Upto c w W
  lt : c < w.heap.size
  nb : w.heap.size < base
theorem L8.step {c base b : Nat} {x : Option Addr} {len cap : Nat} {w W W' : World} {v1 v2 vb : Value} {bks : List Bk} {s : Sf} (h : L8 c x len cap base b w W v1 v2 vb bks s) (u : Upto c W W') (kc : Cur W' c x len cap) : L8 c x len cap base b w W' v1 v2 vb bks s := by
  have hlt := h.lt;have hnb := h.nb;exact ⟨h.st.upto u (by omega),h.inv,(u.block _ (heap_lt h.kR) (by omega)).trans h.kR,kc,h.u.trans u,h.lt,h.nb⟩
theorem L8.below {c base b : Nat} {x : Option Addr} {len cap : Nat} {w W W' : World} {v1 v2 vb : Value} {bks : List Bk} {s : Sf} (h : L8 c x len cap base b w W v1 v2 vb bks s) (k : Below W.heap.size W W') : L8 c x len cap base b w W' v1 v2 vb bks s :=
  h.step (Upto.ofBelow k) (h.kc.below k)
theorem L8.did {c base b : Nat} {x : Option Addr} {len cap : Nat} {w W W' : World} {v1 v2 vb vb' : Value} {bks bks' : List Bk} {s s' : Sf} (h : L8 c x len cap base b w W v1 v2 vb bks s) (st : ShSt base b W' v1 v2 vb' bks' s') (inv : ShInv s') (d : Below base W W') : L8 c x len cap base b w W' v1 v2 vb' bks' s' := by
  have hlt := h.lt;have hnb := h.nb;exact ⟨st,inv,(d.block _ hnb).trans h.kR,h.kc.same (d.mono (by omega)),⟨d.os.trans h.u.os,d.tape.trans h.u.tape,d.output.trans h.u.output,Nat.le_trans h.u.size d.size,fun k hk hn => (d.block k (by omega)).trans (h.u.block k hk hn)⟩,h.lt,h.nb⟩
theorem L8.few {c base b : Nat} {x : Option Addr} {len cap : Nat} {w W : World} {v1 v2 vb : Value} {bks : List Bk} {s : Sf} (h : L8 c x len cap base b w W v1 v2 vb bks s) : bks.length <= 6 := by rw [h.st.len];exact h.inv.few
theorem L8.names {c base b : Nat} {x : Option Addr} {len cap : Nat} {w W : World} {v1 v2 vb : Value} {bks : List Bk} {s : Sf} (h : L8 c x len cap base b w W v1 v2 vb bks s) : ∀ y ∈ bks,1 <= y.nm.size /\ y.nm.size <= 4 := fun y hy => by
  have hm : y.pb ∈ s.bs := by rw [<- h.st.eq];exact List.mem_map_of_mem hy
  have hk := h.inv.oks _ hm;simp only [Pb.ok,bookOk,Bool.and_eq_true] at hk;exact nameB_size _ hk.1.1.1.1
theorem L8.box {c base b nO : Nat} {x : Option Addr} {len cap : Nat} {w W : World} {v1 v2 vb : Value} {bks : List Bk} {s : Sf} {cs : Array Value} (h : L8 c x len cap base b w W v1 v2 vb bks s) (hk : W.heap[nO]? = some (.cells cs 31 (0,0))) (hn : base <= nO) (i : Nat) (u : Value) : L8 c x len cap base b w (W.setCell ⟨nO,i,none⟩ u) v1 v2 vb bks s := by
  have hlt := h.lt;have hnb := h.nb;have uu : Upto nO W (W.setCell ⟨nO,i,none⟩ u) := (Upto.refl nO W).setCell ⟨nO,i,none⟩ (.inl rfl) u;refine ⟨⟨(Below.heap_setCell W ⟨nO,i,none⟩ u b (fun e => by have hbx := h.st.box;rw [show b = nO from e,hk] at hbx;simp at hbx)).trans h.st.box,h.st.lo,⟨own_box h.st.pool.c hk (by decide) i u,own_box h.st.pool.p hk (by decide) i u,h.st.pool.apart⟩,⟨own_box h.st.books.row hk (by decide) i u,fun x hx => own_box (h.st.books.maps x hx) hk (by decide) i u⟩,h.st.eq⟩,h.inv,?_,h.kc.same (uu.toBelow h.kc.lt (by omega)),h.u.setCell ⟨nO,i,none⟩ (.inr (by show _ <= nO;omega)) u,h.lt,h.nb⟩;exact (uu.block _ (heap_lt h.kR) (by omega)).trans h.kR
set_option maxRecDepth 100000 in
set_option maxHeartbeats 6400000 in
theorem draw8_any (c : Nat) (x : Option Addr) (len cap : Nat) (w : World) (hc : Cur w c x len cap) :
    Calls Tryz.prog 121 #[.pointer (some ⟨c,0,none⟩)] w fun e w' => ∃ (v1 v2 vb : Value) (bks : List Bk) (s : Sf),e = .returned (.agg #[v1,v2,vb]) /\ OwnP (w.heap.size + 1) w' v1 v2 s.cs s.ps /\ OwnB (w.heap.size + 1) w' vb bks /\ bks.map Bk.pb = s.bs /\ ShInv s /\ Upto c w w' /\ Cur w' c x len cap := by
  have hlt := hc.lt;obtain ⟨W0,hW0,kR,d0,z0⟩ := box1 w #[.slice none 0 0,.slice none 0 0,.slice none 0 0] 29;have kc : Cur W0 c x len cap := hc.below d0;have u : Upto c w W0 := Upto.ofBelow d0;have HW0 : Hid (W0 = _) := hW0;have HZ0 : Hid (W0.heap.size = w.heap.size + 1) := z0;have sR : w.heap.size < W0.heap.size := by omega
  clear hW0 hc d0 z0
  go_enter Tryz.func121,Tryz.ntmps121
  go_upto_region 1 with fail
  rw [<- HW0.out];clear HW0
  go_wp2_with fail
  refine (below_any c x len cap 5 _ (by omega) (kc.alloc _)).mono ?_;rintro e w1 ⟨y,rfl,hy,u1,k1⟩;have hy5 := hy.2.1 (by omega);obtain ⟨jn,rfl⟩ := Int.eq_ofNat_of_zero_le hy.1
  obtain ⟨z,hz,hzs⟩ : ∃ z : Int,w1.cell? ⟨W0.heap.size,jn,none⟩ = some (.int .i64 z) /\ (1 <= z /\ z <= 24) := by
    rw [pick_cell u1 kc.lt jn];have h3 : jn = 0 \/ jn = 1 \/ jn = 2 \/ jn = 3 \/ jn = 4 := by omega
    rcases h3 with rfl | rfl | rfl | rfl | rfl <;> exact ⟨_,rfl,by decide⟩
  have ua : Upto c W0 w1 := ((Upto.refl c W0).alloc _).trans u1;replace kR := (ua.block _ sR (by omega)).trans kR;replace sR := Nat.lt_of_lt_of_le sR ua.size;have HZ1 : Hid (w.heap.size + 1 <= w1.heap.size) := by have := HZ0.out;have := ua.size;show _ <= _;omega
  replace u := u.trans ua;clear u1 kc ua HZ0
  go_wp2_with fail
  refine (specNewShelf_any z _).mono ?_;rintro e w2 ⟨u1,u2,rfl,own,b2⟩;have HI : Hid _ := new_inv z hzs
  obtain ⟨⟨⟨zc,zp⟩,made⟩,hnp⟩ : ∃ q,newPool z = q := ⟨_,rfl⟩
  rw [hnp] at own HI ⊢;simp only at own HI ⊢;clear hnp hz hzs hy hy5;replace kR := (b2.block _ sR).trans kR;replace sR := Nat.lt_of_lt_of_le sR b2.size;replace u := u.below b2;have k2 := k1.below b2;replace own := own.mono HZ1.out;have HZ2 : Hid (w.heap.size + 1 <= w2.heap.size) := Nat.le_trans HZ1.out b2.size;clear b2 k1 HZ1;obtain ⟨o1,c1,o2,c2,rfl,rfl⟩ := own.forms;have bP : Below w2.heap.size w2 (w2.alloc (.cells #[.slice o1 zc.length c1,.slice o2 zp.length c2,.slice none 0 0] 29)) := bw_alloc (Below.refl _ _);have kB := heap_alloc_new w2 (.cells #[.slice o1 zc.length c1,.slice o2 zp.length c2,.slice none 0 0] 29)
  have h0 : L8 c x len cap (w.heap.size + 1) w2.heap.size w (w2.alloc (.cells #[.slice o1 zc.length c1,.slice o2 zp.length c2,.slice none 0 0] 29)) (.slice o1 zc.length c1) (.slice o2 zp.length c2) (.slice none 0 0) [] ⟨zc,zp,[]⟩ :=
    ⟨⟨kB,HZ2.out,own.below bP,⟨World.ownsRow_nil _ _ _ _,fun b hb => by cases hb⟩,rfl⟩,HI.out,(bP.block _ sR).trans kR,k2.below bP,u.below bP,hlt,Nat.lt_succ_self _⟩
  clear bP kB kR u k2 own HI HZ2 sR
  go_wp2_with fail
  generalize w2.alloc (.cells #[.slice o1 zc.length c1,.slice o2 zp.length c2,.slice none 0 0] 29) = W3 at *;generalize w2.heap.size = nB at *;generalize (⟨zc,zp,[]⟩ : Sf) = s0 at *;generalize zc.length = l1 at *;generalize zp.length = l2 at *;refine (l8Do_any (w.heap.size + 1) nB (.slice o1 l1 c1) (.slice o2 l2 c2) _ [] s0 1 ⟨#[98]⟩ ⟨#[]⟩ 0 6 0 _ (by decide) (by decide) h0.inv h0.st).mono ?_;rintro e w4 ⟨vb,bks,rfl,st,d⟩;replace h0 := h0.did st (do_inv h0.inv _) d;generalize (doOp s0 ⟨1,⟨#[98]⟩,⟨#[]⟩,0,6,0⟩).1 = s1 at *;generalize (doOp s0 ⟨1,⟨#[98]⟩,⟨#[]⟩,0,6,0⟩).2.1 = r1 at *;generalize (doOp s0 ⟨1,⟨#[98]⟩,⟨#[]⟩,0,6,0⟩).2.2 = r2 at *;clear st d
  go_wp2_with fail
  refine (below_any c x len cap 24 _ (by omega) h0.kc).mono ?_;rintro e w5 ⟨m,rfl,hm,u1,k1⟩;have hm24 := hm.2.1 (by omega);obtain ⟨mn,rfl⟩ := Int.eq_ofNat_of_zero_le hm.1;replace h0 := h0.step u1 k1;clear u1 k1 hm
  go_wp2_with fail
  go_loopw [5] (fun i' wr => ∃ (k : Nat) (vb : Value) (bks : List Bk) (s : Sf),k <= 23 /\ i' = .int .i64 k /\ L8 c x len cap (w.heap.size + 1) nB w wr (.slice o1 l1 c1) (.slice o2 l2 c2) vb bks s) (fun i' _ => (intOf i').toNat)
  case atStart => exact ⟨mn,vb,bks,s1,by omega,rfl,h0⟩
  case round =>
    clear h0;obtain ⟨k,vb,bks,s,hk,rfl,h⟩ := hrel;by_cases hk0 : 0 < k
    · have hki : (0 : Int) < (k : Int) := by omega
      go_wp2_with fail
      refine (draw7_any c x len cap _ h.kc).mono ?_;rintro e w6 ⟨o,rfl,fit,u1,k1⟩;obtain ⟨ok,nm,ot,at_,va,ep⟩ := o;replace h := h.step u1 k1;clear u1 k1;simp only;have bP : Below w6.heap.size w6 (w6.alloc (.cells #[.int .i64 ok,.string nm,.string ot,.int .i64 at_,.int .i64 va,.int .i64 ep] 31)) := bw_alloc (Below.refl _ _);have kO := heap_alloc_new w6 (.cells #[.int .i64 ok,.string nm,.string ot,.int .i64 at_,.int .i64 va,.int .i64 ep] 31);replace h := h.below bP;have hnO : w.heap.size + 1 <= w6.heap.size := by have h1 := h.st.lo;have h2 := heap_lt h.st.box;simp at h2;omega
      have HFIT : Hid (OpFit ⟨ok,nm,ot,at_,va,ep⟩) := fit;clear bP fit
      go_upto_region 7 with fail
      generalize w6.alloc (.cells #[.int .i64 ok,.string nm,.string ot,.int .i64 at_,.int .i64 va,.int .i64 ep] 31) = W7 at *;generalize w6.heap.size = nO at *;obtain ⟨ob,kb,rfl⟩ := own_slice h.st.books.row;have hfew := h.few;have HNM : Hid _ := h.names;have s2 := at_cell h.st.box 2
      go_upto_region 8 with fail
      clear s2
      go_cut [41] from 21 to 52 (fun v wx => ∃ bb : Bool,v = .bool bb /\ (bb = true -> 0 < bks.length) /\ L8 c x len cap (w.heap.size + 1) nB w wx (.slice o1 l1 c1) (.slice o2 l2 c2) (.slice ob bks.length kb) bks s /\ wx.heap[nO]? = some (.cells #[.int .i64 ok,.string nm,.string ot,.int .i64 at_,.int .i64 va,.int .i64 ep] 31 (0,0)))
      case first =>
        have p0 := at_cell kO 0;rcases Nat.eq_zero_or_pos bks.length with hl0 | hpos
        · have hl0' : ¬ (0 : Int) < (bks.length : Int) := by omega
          clear hl0
          go_wp2_with fail
          go_meet
          exact ⟨false,rfl,fun q => (by cases q),h,kO⟩
        have hpos' : (0 : Int) < (bks.length : Int) := by omega
        by_cases hk1 : ok = 1
        · subst hk1
          go_wp2_with fail
          go_meet
          exact ⟨false,rfl,fun q => (by cases q),h,kO⟩
        have hk1' : (ok != 1) = true := by simpa using hk1
        go_wp2_with fail
        refine (once_any c x len cap 4 _ (by omega) h.kc).mono ?_;rintro e w8 ⟨y,rfl,u1,k1⟩;have hc7 := h.lt;have h8 := h.step u1 k1;have kO8 := (u1.block _ (heap_lt kO) (by omega)).trans kO;clear u1 k1 h kO p0;cases y
        · go_wp2_with fail
          go_meet
          exact ⟨true,rfl,fun _ => hpos,h8,kO8⟩
        · go_wp2_with fail
          go_meet
          exact ⟨false,rfl,fun q => (by cases q),h8,kO8⟩
      case rest =>
        clear h kO;obtain ⟨bb,rfl,hbb,h,kO⟩ := hcut
        go_upto_if 41 with fail
        go_cut [] from 42 to 52 (fun wx => ∃ nm' : ByteArray,nm'.size <= 5 /\ L8 c x len cap (w.heap.size + 1) nB w wx (.slice o1 l1 c1) (.slice o2 l2 c2) (.slice ob bks.length kb) bks s /\ wx.heap[nO]? = some (.cells #[.int .i64 ok,.string nm',.string ot,.int .i64 at_,.int .i64 va,.int .i64 ep] 31 (0,0)))
        case first =>
          cases bb
          · go_wp2_with fail
            go_meet
            exact ⟨nm,HFIT.out.nm,h,kO⟩
          · have hpos := hbb rfl
            have hpos' : (0 : Int) < (bks.length : Int) := by omega
            have hd := h.below (W' := wc.drew) ((Below.refl _ _).drew);have kOd : wc.drew.heap[nO]? = some (.cells #[.int .i64 ok,.string nm,.string ot,.int .i64 at_,.int .i64 va,.int .i64 ep] 31 (0,0)) := kO;have cc2 := at_cell h.st.box 2;have c2d := at_cell hd.st.box 2;have hlt2 := h.lt;have hnb2 := h.nb
            go_wp2_with fail
            go_region_law ((go_simp;go_at_call 88;refine (below_any c x len cap (bks.length : Int) _ (by omega) hd.kc).mono ?_;rintro e w8 ⟨y,rfl,hy,u8,k8⟩;have h8 := hd.step u8 k8;have kO8 := (u8.block _ (heap_lt kOd) (by omega)).trans kOd;have c8 := at_cell h8.st.box 2;have hyn := hy.2.1 hpos';have hy0 := hy.1;obtain ⟨q,hq⟩ := Int.eq_ofNat_of_zero_le hy.1;subst hq;have hlq : q < bks.length := (by omega);have q0i : (0 : Int) <= (q : Int) := (by omega);obtain ⟨gb,cpb,hvb⟩ := h8.st.books.at q hlq;cases hvb;obtain ⟨⟨a0,-⟩,-⟩ := own_five h8.st.books.row q hlq;have oo1 := at_open kO8 1;have oo2 := at_cell kO8 1;dsimp only))
            all_goals
              have hnq := (HNM.out _ (List.getElem_mem hlq)).2;have h9 := h8.box kO8 hnO 1 (.string (bks[q]'hlq).nm);have kO9 := set_at kO8 1 (.string (bks[q]'hlq).nm)
              go_wp2_with fail
              go_meet
              first
              | exact ⟨(bks[q]'hlq).nm,by omega,h9,kO9⟩
              | exact ⟨(bks[q]'hlq).nm,by omega,h9.below ((Below.refl _ _).drew),kO9⟩
        case rest =>
          clear h kO;obtain ⟨nm',hnm',h,kO⟩ := hcut;have p0 := at_cell kO 0;have p1 := at_cell kO 1;have p2 := at_cell kO 2;have p3 := at_cell kO 3;have p4 := at_cell kO 4;have p5 := at_cell kO 5
          go_wp2_with fail
          clear p0 p1 p2 p3 p4 p5;refine (l8Do_any (w.heap.size + 1) nB (.slice o1 l1 c1) (.slice o2 l2 c2) _ bks s ok nm' ot at_ va ep _ (by unfold maxLen;omega) (by have := HFIT.out.ot;simp only at this;unfold maxLen;omega) h.inv h.st).mono ?_;rintro e w9 ⟨vb',bks',rfl,st',d'⟩;have h9 := h.did st' (do_inv h.inv _) d';generalize (doOp s ⟨ok,nm',ot,at_,va,ep⟩).1 = s9 at *;generalize (doOp s ⟨ok,nm',ot,at_,va,ep⟩).2.1 = r1 at *;generalize (doOp s ⟨ok,nm',ot,at_,va,ep⟩).2.2 = r2 at *;clear st' d' h kO
          go_wp2_with fail
          go_roundw
          case rel => exact ⟨k - 1,vb',bks',s9,by omega,by first | go_num | (congr 1;omega),h9⟩
          case measure => simp [intOf];omega
    · obtain rfl : k = 0 := by omega
      have hnb := h.nb;have hw : w.heap.size <= wr.heap.size := h.u.size;obtain ⟨ob,kb,rfl⟩ := own_slice h.st.books.row;obtain ⟨p0,p1,p2⟩ := c3 h.st.box;obtain ⟨q0,q1,q2⟩ := c3 h.kR;obtain ⟨g0,g1,g2⟩ := o3 h.kR;have uu : Upto w.heap.size wr (((wr.setCell ⟨w.heap.size,0,none⟩ (.slice o1 l1 c1)).setCell ⟨w.heap.size,1,none⟩ (.slice o2 l2 c2)).setCell ⟨w.heap.size,2,none⟩ (.slice ob bks.length kb)) := (((Upto.refl _ _).setCell ⟨w.heap.size,0,none⟩ (.inl rfl) _).setCell ⟨w.heap.size,1,none⟩ (.inl rfl) _).setCell ⟨w.heap.size,2,none⟩ (.inl rfl) _;have hP := h.st.pool.upto uu hnb
      have hB : OwnB (w.heap.size + 1) _ (.slice ob bks.length kb) bks := ⟨ownsRow_upto h.st.books.row uu hnb,fun x hx => ownsRow_upto (h.st.books.maps x hx) uu hnb⟩
      have hU := ((h.u.setCell ⟨w.heap.size,0,none⟩ (.inr (Nat.le_refl _)) (.slice o1 l1 c1)).setCell ⟨w.heap.size,1,none⟩ (.inr (Nat.le_refl _)) (.slice o2 l2 c2)).setCell ⟨w.heap.size,2,none⟩ (.inr (Nat.le_refl _)) (.slice ob bks.length kb);have hK := h.kc.same (uu.toBelow h.kc.lt (by omega));have hR := set_at (set_at (set_at h.kR 0 (.slice o1 l1 c1)) 1 (.slice o2 l2 c2)) 2 (.slice ob bks.length kb);have HS : Hid _ := And.intro hR (And.intro hP (And.intro hB (And.intro h.st.eq (And.intro h.inv (And.intro hU hK)))));clear hP hB hU hK hR uu h
      go_wp2_with fail
      exact bodyPost_ret (v := .agg #[.slice o1 l1 c1,.slice o2 l2 c2,.slice ob bks.length kb]) (by simp [results,Tryz.results121,go_sem,at_cell HS.out.1]) rfl ⟨_,_,_,bks,s,rfl,HS.out.2⟩
end Go.Proofs.YtaekdfknkgmfbaaGreatDoor
