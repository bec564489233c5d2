import Derived.Deep.DeepCutAuto
import Derived.Deep.RegionHeld3
import Derived.Test.YtcefcglonooelaaGreatDoorA06
import Derived.Test.YtcefcglonooelaaGreatDoorA09
import Derived.Test.YtcefcglonooelaaGreatDoorA11
import Derived.Test.YtcefcglonooelaaGreatDoorA23
import Derived.Test.YtcefcglonooelaaGreatDoorA24
import Derived.Test.YtcefcglonooelaaGreatDoorA25
import Derived.Test.YtcefcglonooelaaGreatDoorA26
namespace Go.Proofs.YtcefcglonooelaaGreatDoor
open Go.RowKit
set_option linter.unusedVariables false
theorem ShSt.upto {base b c : Nat} {w w' : World} {v1 v2 vb : Value} {bks : List Bk} {s : Sf} (h : ShSt base b w v1 v2 vb bks s) (u : Upto c w w') (hc : c < base) : ShSt base b w' v1 v2 vb bks s :=
  ⟨(u.block b (heap_lt h.box) (fun e => by have := h.lo;omega)).trans h.box,h.lo,h.pool.upto u hc,⟨ownsRow_upto h.books.row u hc,fun x hx => ownsRow_upto (h.books.maps x hx) u hc⟩,h.eq⟩
structure L8 (c : Nat) (x : Option Addr) (len cap base b : Nat) (w W : World) (v1 v2 vb : Value) (bks : List Bk) (s : Sf) : Prop where
  st : ShSt base b W v1 v2 vb bks s
  inv : ShInv s
  kR : W.heap[w.heap.size]? = some (.cells #[.slice none 0 0,.slice none 0 0,.slice none 0 0] 42 (0,0))
  kc : Cur W c x len cap
  u : Upto c w W
  lt : c < w.heap.size
  nb : w.heap.size < base
theorem L8.step {c base b : Nat} {x : Option Addr} {len cap : Nat} {w W W' : World} {v1 v2 vb : Value} {bks : List Bk} {s : Sf} (h : L8 c x len cap base b w W v1 v2 vb bks s) (u : Upto c W W') (kc : Cur W' c x len cap) : L8 c x len cap base b w W' v1 v2 vb bks s := by
  have hlt := h.lt;have hnb := h.nb;exact ⟨h.st.upto u (by omega),h.inv,(u.block _ (heap_lt h.kR) (by omega)).trans h.kR,kc,h.u.trans u,h.lt,h.nb⟩
theorem L8.below {c base b : Nat} {x : Option Addr} {len cap : Nat} {w W W' : World} {v1 v2 vb : Value} {bks : List Bk} {s : Sf} (h : L8 c x len cap base b w W v1 v2 vb bks s) (k : Below W.heap.size W W') : L8 c x len cap base b w W' v1 v2 vb bks s :=
  h.step (Upto.ofBelow k) (h.kc.below k)
theorem L8.did {c base b : Nat} {x : Option Addr} {len cap : Nat} {w W W' : World} {v1 v2 vb vb' : Value} {bks bks' : List Bk} {s s' : Sf} (h : L8 c x len cap base b w W v1 v2 vb bks s) (st : ShSt base b W' v1 v2 vb' bks' s') (inv : ShInv s') (d : Below base W W') : L8 c x len cap base b w W' v1 v2 vb' bks' s' := by
  have hlt := h.lt;have hnb := h.nb;exact ⟨st,inv,(d.block _ hnb).trans h.kR,h.kc.same (d.mono (by omega)),⟨d.os.trans h.u.os,d.tape.trans h.u.tape,d.output.trans h.u.output,Nat.le_trans h.u.size d.size,fun k hk hn => (d.block k (by omega)).trans (h.u.block k hk hn)⟩,h.lt,h.nb⟩
theorem L8.few {c base b : Nat} {x : Option Addr} {len cap : Nat} {w W : World} {v1 v2 vb : Value} {bks : List Bk} {s : Sf} (h : L8 c x len cap base b w W v1 v2 vb bks s) : bks.length <= 6 := by rw [h.st.len];exact h.inv.few
theorem L8.names {c base b : Nat} {x : Option Addr} {len cap : Nat} {w W : World} {v1 v2 vb : Value} {bks : List Bk} {s : Sf} (h : L8 c x len cap base b w W v1 v2 vb bks s) : ∀ y ∈ bks,1 <= y.nm.size /\ y.nm.size <= 4 := fun y hy => by
  have hm : y.pb ∈ s.bs := by rw [<- h.st.eq];exact List.mem_map_of_mem hy
  have hk := h.inv.oks _ hm;simp only [Pb.ok,bookOk,Bool.and_eq_true] at hk;exact nameB_size _ hk.1.1.1.1
theorem L8.box {c base b nO : Nat} {x : Option Addr} {len cap : Nat} {w W : World} {v1 v2 vb : Value} {bks : List Bk} {s : Sf} {cs : Array Value} (h : L8 c x len cap base b w W v1 v2 vb bks s) (hk : W.heap[nO]? = some (.cells cs 26 (0,0))) (hn : base <= nO) (i : Nat) (u : Value) : L8 c x len cap base b w (W.setCell ⟨nO,i,none⟩ u) v1 v2 vb bks s := by
  have hlt := h.lt;have hnb := h.nb;have uu : Upto nO W (W.setCell ⟨nO,i,none⟩ u) := (Upto.refl nO W).setCell ⟨nO,i,none⟩ (.inl rfl) u;refine ⟨⟨(Below.heap_setCell W ⟨nO,i,none⟩ u b (fun e => by have hbx := h.st.box;rw [show b = nO from e,hk] at hbx;simp at hbx)).trans h.st.box,h.st.lo,⟨own_box h.st.pool.c hk (by decide) i u,own_box h.st.pool.p hk (by decide) i u,h.st.pool.apart⟩,⟨own_box h.st.books.row hk (by decide) i u,fun x hx => own_box (h.st.books.maps x hx) hk (by decide) i u⟩,h.st.eq⟩,h.inv,?_,h.kc.same (uu.toBelow h.kc.lt (by omega)),h.u.setCell ⟨nO,i,none⟩ (.inr (by show _ <= nO;omega)) u,h.lt,h.nb⟩;exact (uu.block _ (heap_lt h.kR) (by omega)).trans h.kR
set_option maxRecDepth 100000 in
set_option maxHeartbeats 6400000 in
theorem draw8_any (c : Nat) (x : Option Addr) (len cap : Nat) (w : World) (hc : Cur w c x len cap) :
    Calls Tryz.prog 68 #[.pointer (some ⟨c,0,none⟩)] w fun e w' => ∃ (v1 v2 vb : Value) (bks : List Bk) (s : Sf),e = .returned (.agg #[v1,v2,vb]) /\ OwnP (w.heap.size + 1) w' v1 v2 s.cs s.ps /\ OwnB (w.heap.size + 1) w' vb bks /\ bks.map Bk.pb = s.bs /\ ShInv s /\ Upto c w w' /\ Cur w' c x len cap := by
  have hlt := hc.lt;obtain ⟨W0,hW0,kR,d0,z0⟩ := box1 w #[.slice none 0 0,.slice none 0 0,.slice none 0 0] 42;have kc : Cur W0 c x len cap := hc.below d0;have u : Upto c w W0 := Upto.ofBelow d0;have HW0 : Hid (W0 = _) := hW0;have HZ0 : Hid (W0.heap.size = w.heap.size + 1) := z0;have sR : w.heap.size < W0.heap.size := by omega
  clear hW0 hc d0 z0
  go_enter Tryz.func68,Tryz.ntmps68
  go_upto_region 1 with fail
  rw [<- HW0.out];clear HW0
  go_wp2_with fail
  refine (below_any c x len cap 5 _ (by omega) (kc.alloc _)).mono ?_;rintro e w1 ⟨y,rfl,hy,u1,k1⟩;have hy5 := hy.2.1 (by omega);obtain ⟨jn,rfl⟩ := Int.eq_ofNat_of_zero_le hy.1
  obtain ⟨z,hz,hzs⟩ : ∃ z : Int,w1.cell? ⟨W0.heap.size,jn,none⟩ = some (.int .i64 z) /\ (1 <= z /\ z <= 24) := by
    rw [pick_cell u1 kc.lt jn];have h3 : jn = 0 \/ jn = 1 \/ jn = 2 \/ jn = 3 \/ jn = 4 := by omega
    rcases h3 with rfl | rfl | rfl | rfl | rfl <;> exact ⟨_,rfl,by decide⟩
  have ua : Upto c W0 w1 := ((Upto.refl c W0).alloc _).trans u1;replace kR := (ua.block _ sR (by omega)).trans kR;replace sR := Nat.lt_of_lt_of_le sR ua.size;have HZ1 : Hid (w.heap.size + 1 <= w1.heap.size) := by have := HZ0.out;have := ua.size;show _ <= _;omega
  replace u := u.trans ua;clear u1 kc ua HZ0
  go_wp2_with fail
  refine (specNewShelf_any z _).mono ?_;rintro e w2 ⟨u1,u2,rfl,own,b2⟩;have HI : Hid _ := new_inv z hzs
  obtain ⟨⟨⟨zc,zp⟩,made⟩,hnp⟩ : ∃ q,newPool z = q := ⟨_,rfl⟩
  rw [hnp] at own HI ⊢;simp only at own HI ⊢;clear hnp hz hzs hy hy5;replace kR := (b2.block _ sR).trans kR;replace sR := Nat.lt_of_lt_of_le sR b2.size;replace u := u.below b2;have k2 := k1.below b2;replace own := own.mono HZ1.out;have HZ2 : Hid (w.heap.size + 1 <= w2.heap.size) := Nat.le_trans HZ1.out b2.size;clear b2 k1 HZ1;obtain ⟨o1,c1,o2,c2,rfl,rfl⟩ := own.forms;have bP : Below w2.heap.size w2 (w2.alloc (.cells #[.slice o1 zc.length c1,.slice o2 zp.length c2,.slice none 0 0] 42)) := bw_alloc (Below.refl _ _);have kB := heap_alloc_new w2 (.cells #[.slice o1 zc.length c1,.slice o2 zp.length c2,.slice none 0 0] 42)
  have h0 : L8 c x len cap (w.heap.size + 1) w2.heap.size w (w2.alloc (.cells #[.slice o1 zc.length c1,.slice o2 zp.length c2,.slice none 0 0] 42)) (.slice o1 zc.length c1) (.slice o2 zp.length c2) (.slice none 0 0) [] ⟨zc,zp,[]⟩ :=
    ⟨⟨kB,HZ2.out,own.below bP,⟨World.ownsRow_nil _ _ _ _,fun b hb => by cases hb⟩,rfl⟩,HI.out,(bP.block _ sR).trans kR,k2.below bP,u.below bP,hlt,Nat.lt_succ_self _⟩
  clear bP kB kR u k2 own HI HZ2 sR
  go_wp2_with fail
  generalize w2.alloc (.cells #[.slice o1 zc.length c1,.slice o2 zp.length c2,.slice none 0 0] 42) = W3 at *;generalize w2.heap.size = nB at *;generalize (⟨zc,zp,[]⟩ : Sf) = s0 at *;generalize zc.length = l1 at *;generalize zp.length = l2 at *;refine (l8Do_any (w.heap.size + 1) nB (.slice o1 l1 c1) (.slice o2 l2 c2) _ [] s0 1 ⟨#[98]⟩ ⟨#[]⟩ 0 6 0 _ (by decide) (by decide) h0.inv h0.st).mono ?_;rintro e w4 ⟨vb,bks,rfl,st,d⟩;replace h0 := h0.did st (do_inv h0.inv _) d;generalize (doOp s0 ⟨1,⟨#[98]⟩,⟨#[]⟩,0,6,0⟩).1 = s1 at *;generalize (doOp s0 ⟨1,⟨#[98]⟩,⟨#[]⟩,0,6,0⟩).2.1 = r1 at *;generalize (doOp s0 ⟨1,⟨#[98]⟩,⟨#[]⟩,0,6,0⟩).2.2 = r2 at *;clear st d
  go_wp2_with fail
  refine (below_any c x len cap 24 _ (by omega) h0.kc).mono ?_;rintro e w5 ⟨m,rfl,hm,u1,k1⟩;have hm24 := hm.2.1 (by omega);obtain ⟨mn,rfl⟩ := Int.eq_ofNat_of_zero_le hm.1;replace h0 := h0.step u1 k1;clear u1 k1 hm
  go_wp2_with fail
  go_loopw [5] (fun i' wr => ∃ (k : Nat) (vb : Value) (bks : List Bk) (s : Sf),k <= 23 /\ i' = .int .i64 k /\ L8 c x len cap (w.heap.size + 1) nB w wr (.slice o1 l1 c1) (.slice o2 l2 c2) vb bks s) (fun i' _ => (intOf i').toNat)
  case atStart => exact ⟨mn,vb,bks,s1,by omega,rfl,h0⟩
  case round =>
    clear h0;obtain ⟨k,vb,bks,s,hk,rfl,h⟩ := hrel;by_cases hk0 : 0 < k
    · have hki : (0 : Int) < (k : Int) := by omega
      go_wp2_with fail
      refine (draw7_any c x len cap _ h.kc).mono ?_;rintro e w6 ⟨o,rfl,fit,u1,k1⟩;obtain ⟨ok,nm,ot,at_,va,ep⟩ := o;replace h := h.step u1 k1;clear u1 k1;simp only;have bP : Below w6.heap.size w6 (w6.alloc (.cells #[.int .i64 ok,.string nm,.string ot,.int .i64 at_,.int .i64 va,.int .i64 ep] 26)) := bw_alloc (Below.refl _ _);have kO := heap_alloc_new w6 (.cells #[.int .i64 ok,.string nm,.string ot,.int .i64 at_,.int .i64 va,.int .i64 ep] 26);replace h := h.below bP;have hnO : w.heap.size + 1 <= w6.heap.size := by have h1 := h.st.lo;have h2 := heap_lt h.st.box;simp at h2;omega
      have HFIT : Hid (OpFit ⟨ok,nm,ot,at_,va,ep⟩) := fit;clear bP fit
      go_upto_region 7 with fail
      generalize w6.alloc (.cells #[.int .i64 ok,.string nm,.string ot,.int .i64 at_,.int .i64 va,.int .i64 ep] 26) = W7 at *;generalize w6.heap.size = nO at *;obtain ⟨ob,kb,rfl⟩ := own_slice h.st.books.row;have hfew := h.few;have HNM : Hid _ := h.names;have s2 := at_cell h.st.box 2
      go_upto_region 8 with fail
      clear s2
      go_cut [41] from 21 to 52 (fun v wx => ∃ bb : Bool,v = .bool bb /\ (bb = true -> 0 < bks.length) /\ L8 c x len cap (w.heap.size + 1) nB w wx (.slice o1 l1 c1) (.slice o2 l2 c2) (.slice ob bks.length kb) bks s /\ wx.heap[nO]? = some (.cells #[.int .i64 ok,.string nm,.string ot,.int .i64 at_,.int .i64 va,.int .i64 ep] 26 (0,0)))
      case first =>
        have p0 := at_cell kO 0;rcases Nat.eq_zero_or_pos bks.length with hl0 | hpos
        · have hl0' : ¬ (0 : Int) < (bks.length : Int) := by omega
          clear hl0
          go_wp2_with fail
          go_meet
          exact ⟨false,rfl,fun q => (by cases q),h,kO⟩
        have hpos' : (0 : Int) < (bks.length : Int) := by omega
        by_cases hk1 : ok = 1
        · subst hk1
          go_wp2_with fail
          go_meet
          exact ⟨false,rfl,fun q => (by cases q),h,kO⟩
        have hk1' : (ok != 1) = true := by simpa using hk1
        go_wp2_with fail
        refine (once_any c x len cap 4 _ (by omega) h.kc).mono ?_;rintro e w8 ⟨y,rfl,u1,k1⟩;have hc7 := h.lt;have h8 := h.step u1 k1;have kO8 := (u1.block _ (heap_lt kO) (by omega)).trans kO;clear u1 k1 h kO p0;cases y
        · go_wp2_with fail
          go_meet
          exact ⟨true,rfl,fun _ => hpos,h8,kO8⟩
        · go_wp2_with fail
          go_meet
          exact ⟨false,rfl,fun q => (by cases q),h8,kO8⟩
      case rest =>
        clear h kO;obtain ⟨bb,rfl,hbb,h,kO⟩ := hcut
        go_upto_if 41 with fail
        go_cut [] from 42 to 52 (fun wx => ∃ nm' : ByteArray,nm'.size <= 5 /\ L8 c x len cap (w.heap.size + 1) nB w wx (.slice o1 l1 c1) (.slice o2 l2 c2) (.slice ob bks.length kb) bks s /\ wx.heap[nO]? = some (.cells #[.int .i64 ok,.string nm',.string ot,.int .i64 at_,.int .i64 va,.int .i64 ep] 26 (0,0)))
        case first =>
          cases bb
          · go_wp2_with fail
            go_meet
            exact ⟨nm,HFIT.out.nm,h,kO⟩
          · have hpos := hbb rfl
            have hpos' : (0 : Int) < (bks.length : Int) := by omega
            have hd := h.below (W' := wc.drew) ((Below.refl _ _).drew);have kOd : wc.drew.heap[nO]? = some (.cells #[.int .i64 ok,.string nm,.string ot,.int .i64 at_,.int .i64 va,.int .i64 ep] 26 (0,0)) := kO;have cc2 := at_cell h.st.box 2;have c2d := at_cell hd.st.box 2;have hlt2 := h.lt;have hnb2 := h.nb
            go_wp2_with fail
            go_region_law ((go_simp;go_at_call 36;refine (below_any c x len cap (bks.length : Int) _ (by omega) hd.kc).mono ?_;rintro e w8 ⟨y,rfl,hy,u8,k8⟩;have h8 := hd.step u8 k8;have kO8 := (u8.block _ (heap_lt kOd) (by omega)).trans kOd;have c8 := at_cell h8.st.box 2;have hyn := hy.2.1 hpos';have hy0 := hy.1;obtain ⟨q,hq⟩ := Int.eq_ofNat_of_zero_le hy.1;subst hq;have hlq : q < bks.length := (by omega);have q0i : (0 : Int) <= (q : Int) := (by omega);obtain ⟨gb,cpb,hvb⟩ := h8.st.books.at q hlq;cases hvb;obtain ⟨⟨a0,-⟩,-⟩ := own_five h8.st.books.row q hlq;have oo1 := at_open kO8 1;have oo2 := at_cell kO8 1;dsimp only))
            all_goals
              have hnq := (HNM.out _ (List.getElem_mem hlq)).2;have h9 := h8.box kO8 hnO 1 (.string (bks[q]'hlq).nm);have kO9 := set_at kO8 1 (.string (bks[q]'hlq).nm)
              go_wp2_with fail
              go_meet
              first
              | exact ⟨(bks[q]'hlq).nm,by omega,h9,kO9⟩
              | exact ⟨(bks[q]'hlq).nm,by omega,h9.below ((Below.refl _ _).drew),kO9⟩
        case rest =>
          clear h kO;obtain ⟨nm',hnm',h,kO⟩ := hcut;obtain ⟨p0,p1,p2,p3,p4,p5⟩ := c6 kO
          go_wp2_with fail
          clear p0 p1 p2 p3 p4 p5;refine (l8Do_any (w.heap.size + 1) nB (.slice o1 l1 c1) (.slice o2 l2 c2) _ bks s ok nm' ot at_ va ep _ (by unfold maxLen;omega) (by have := HFIT.out.ot;simp only at this;unfold maxLen;omega) h.inv h.st).mono ?_;rintro e w9 ⟨vb',bks',rfl,st',d'⟩;have h9 := h.did st' (do_inv h.inv _) d';generalize (doOp s ⟨ok,nm',ot,at_,va,ep⟩).1 = s9 at *;generalize (doOp s ⟨ok,nm',ot,at_,va,ep⟩).2.1 = r1 at *;generalize (doOp s ⟨ok,nm',ot,at_,va,ep⟩).2.2 = r2 at *;clear st' d' h kO
          go_wp2_with fail
          go_roundw
          case rel => exact ⟨k - 1,vb',bks',s9,by omega,by first | go_num | (congr 1;omega),h9⟩
          case measure => simp [intOf];omega
    · obtain rfl : k = 0 := by omega
      have hnb := h.nb;have hw : w.heap.size <= wr.heap.size := h.u.size;obtain ⟨ob,kb,rfl⟩ := own_slice h.st.books.row;obtain ⟨p0,p1,p2⟩ := c3 h.st.box;obtain ⟨q0,q1,q2⟩ := c3 h.kR;obtain ⟨g0,g1,g2⟩ := o3 h.kR;have uu : Upto w.heap.size wr (((wr.setCell ⟨w.heap.size,0,none⟩ (.slice o1 l1 c1)).setCell ⟨w.heap.size,1,none⟩ (.slice o2 l2 c2)).setCell ⟨w.heap.size,2,none⟩ (.slice ob bks.length kb)) := (((Upto.refl _ _).setCell ⟨w.heap.size,0,none⟩ (.inl rfl) _).setCell ⟨w.heap.size,1,none⟩ (.inl rfl) _).setCell ⟨w.heap.size,2,none⟩ (.inl rfl) _;have hP := h.st.pool.upto uu hnb
      have hB : OwnB (w.heap.size + 1) _ (.slice ob bks.length kb) bks := ⟨ownsRow_upto h.st.books.row uu hnb,fun x hx => ownsRow_upto (h.st.books.maps x hx) uu hnb⟩
      have hU := ((h.u.setCell ⟨w.heap.size,0,none⟩ (.inr (Nat.le_refl _)) (.slice o1 l1 c1)).setCell ⟨w.heap.size,1,none⟩ (.inr (Nat.le_refl _)) (.slice o2 l2 c2)).setCell ⟨w.heap.size,2,none⟩ (.inr (Nat.le_refl _)) (.slice ob bks.length kb);have hK := h.kc.same (uu.toBelow h.kc.lt (by omega));have hR := set_at (set_at (set_at h.kR 0 (.slice o1 l1 c1)) 1 (.slice o2 l2 c2)) 2 (.slice ob bks.length kb);have HS : Hid _ := And.intro hR (And.intro hP (And.intro hB (And.intro h.st.eq (And.intro h.inv (And.intro hU hK)))));clear hP hB hU hK hR uu h
      go_wp2_with fail
      exact bodyPost_ret (v := .agg #[.slice o1 l1 c1,.slice o2 l2 c2,.slice ob bks.length kb]) (by simp [results,Tryz.results68,go_sem,at_cell HS.out.1]) rfl ⟨_,_,_,bks,s,rfl,HS.out.2⟩
end Go.Proofs.YtcefcglonooelaaGreatDoor
