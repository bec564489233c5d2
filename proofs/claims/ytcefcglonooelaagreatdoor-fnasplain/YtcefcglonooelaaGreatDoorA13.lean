import Derived.Test.YtcefcglonooelaaGreatDoorA05
import Derived.Test.YtcefcglonooelaaGreatDoorA06
import Derived.Test.YtcefcglonooelaaGreatDoorA11
import Derived.Test.YtcefcglonooelaaGreatDoorA12
namespace Go.Proofs.YtcefcglonooelaaGreatDoor
open Go.RowKit
set_option linter.unusedVariables false
structure BookSt (c : Nat) (x : Option Addr) (len cap : Nat) (w W : World) (b : Bk) : Prop where
  own : W.ownsRow w.heap.size 129 3 b.m b.rs.length (b.rs.flatMap runC)
  kc : Cur W c x len cap
  u : Upto c w W
  lt : c < w.heap.size
  few : b.rs.length <= 17
  fit : FitRuns b.rs
  nm : b.nm.size <= 5
  sz : -1 <= b.sz /\ b.sz <= 17
  ep : -1 <= b.ep /\ b.ep <= 1001
theorem BookSt.step {c : Nat} {x : Option Addr} {len cap : Nat} {w W W' : World} {b : Bk} (h : BookSt c x len cap w W b) (u : Upto c W W') (kc : Cur W' c x len cap) : BookSt c x len cap w W' b :=
  ⟨ownsRow_upto h.own u h.lt,kc,h.u.trans u,h.lt,h.few,h.fit,h.nm,h.sz,h.ep⟩
theorem BookSt.below {c : Nat} {x : Option Addr} {len cap : Nat} {w W W' : World} {b : Bk} (h : BookSt c x len cap w W b) (k : Below W.heap.size W W') : BookSt c x len cap w W' b :=
  h.step (Upto.ofBelow k) (h.kc.below k)
theorem BookSt.form {c : Nat} {x : Option Addr} {len cap : Nat} {w W : World} {b : Bk} (h : BookSt c x len cap w W b) : ∃ o cp,b.m = .slice o b.rs.length cp := own_slice h.own
theorem BookSt.reads {c : Nat} {x : Option Addr} {len cap : Nat} {w W : World} {b : Bk} (h : BookSt c x len cap w W b) : ReadsR 3 runC W.heap.size W b.m b.rs := ReadsR.of_own runC_len h.own
theorem BookSt.put {c : Nat} {x : Option Addr} {len cap : Nat} {w W : World} {b : Bk} {g i : Nat} {cs : Array Value} (h : BookSt c x len cap w W b) (k : W.heap[g]? = some (.cells cs 87 (0,0))) (hg : w.heap.size <= g) (v : Value) : BookSt c x len cap w (W.setCell ⟨g,i,none⟩ v) b := by
  have hne := own_not_box h.own k (by decide);have hlt := h.lt;have hb : ∀ q,q < W.heap.size -> q ≠ g -> (W.setCell ⟨g,i,none⟩ v).heap[q]? = W.heap[q]? := fun q hq hqg => ((Upto.refl g W).setCell ⟨g,i,none⟩ (.inl rfl) v).block q hq hqg
  refine ⟨own_rng_not h.own (fun q hq hv => hb q hq (fun e => hne (by rw [<- e];exact hv))),h.kc.same (((Upto.refl g W).setCell ⟨g,i,none⟩ (.inl rfl) _).toBelow h.kc.lt (by omega)),h.u.setCell ⟨g,i,none⟩ (.inr hg) _,h.lt,h.few,h.fit,h.nm,h.sz,h.ep⟩
structure BkSt (c : Nat) (x : Option Addr) (len cap nB : Nat) (w W : World) (b : Bk) : Prop where
  st : BookSt c x len cap w W b
  kB : W.heap[nB]? = some (.cells #[.string b.nm,.int .i64 b.sz,b.m,.bool b.fx,.int .i64 b.ep] 87 (0,0))
  kR : W.heap[w.heap.size]? = some (.cells #[.string ⟨#[]⟩,.int .i64 0,.slice none 0 0,.bool false,.int .i64 0] 87 (0,0))
  nb : w.heap.size < nB
theorem BkSt.step {c nB : Nat} {x : Option Addr} {len cap : Nat} {w W W' : World} {b : Bk} (h : BkSt c x len cap nB w W b) (u : Upto c W W') (kc : Cur W' c x len cap) : BkSt c x len cap nB w W' b := by
  have hlt := h.st.lt;have hnb := h.nb;exact ⟨h.st.step u kc,(u.block _ (heap_lt h.kB) (by omega)).trans h.kB,(u.block _ (heap_lt h.kR) (by omega)).trans h.kR,h.nb⟩
theorem BkSt.below {c nB : Nat} {x : Option Addr} {len cap : Nat} {w W W' : World} {b : Bk} (h : BkSt c x len cap nB w W b) (k : Below W.heap.size W W') : BkSt c x len cap nB w W' b :=
  h.step (Upto.ofBelow k) (h.st.kc.below k)
theorem BkSt.alloc {c nB : Nat} {x : Option Addr} {len cap : Nat} {w W : World} {b : Bk} (h : BkSt c x len cap nB w W b) (o : Obj) : BkSt c x len cap nB w (W.alloc o) b :=
  h.below (bw_alloc (Below.refl _ _))
theorem BkSt.other {c nB : Nat} {x : Option Addr} {len cap : Nat} {w W : World} {b : Bk} (h : BkSt c x len cap nB w W b) (i : Nat) (v : Value) : (W.setCell ⟨nB,i,none⟩ v).heap[w.heap.size]? = some (.cells #[.string ⟨#[]⟩,.int .i64 0,.slice none 0 0,.bool false,.int .i64 0] 87 (0,0)) :=
  (((Upto.refl nB W).setCell ⟨nB,i,none⟩ (.inl rfl) v).block _ (heap_lt h.kR) (Nat.ne_of_lt h.nb)).trans h.kR
theorem BkSt.name {c nB : Nat} {x : Option Addr} {len cap : Nat} {w W : World} {b : Bk} (h : BkSt c x len cap nB w W b) (s : ByteArray) (hs : s.size <= 5) : BkSt c x len cap nB w (W.setCell ⟨nB,0,none⟩ (.string s)) ⟨s,b.sz,b.m,b.rs,b.fx,b.ep⟩ := by
  have p := h.st.put (i := 0) h.kB (Nat.le_of_lt h.nb) (.string s);exact ⟨⟨p.own,p.kc,p.u,p.lt,p.few,p.fit,hs,p.sz,p.ep⟩,set_at h.kB 0 _,h.other 0 _,h.nb⟩
theorem BkSt.size {c nB : Nat} {x : Option Addr} {len cap : Nat} {w W : World} {b : Bk} (h : BkSt c x len cap nB w W b) (z : Int) (hz : -1 <= z /\ z <= 17) : BkSt c x len cap nB w (W.setCell ⟨nB,1,none⟩ (.int .i64 z)) ⟨b.nm,z,b.m,b.rs,b.fx,b.ep⟩ := by
  have p := h.st.put (i := 1) h.kB (Nat.le_of_lt h.nb) (.int .i64 z);exact ⟨⟨p.own,p.kc,p.u,p.lt,p.few,p.fit,p.nm,hz,p.ep⟩,set_at h.kB 1 _,h.other 1 _,h.nb⟩
theorem BkSt.epoch {c nB : Nat} {x : Option Addr} {len cap : Nat} {w W : World} {b : Bk} (h : BkSt c x len cap nB w W b) (z : Int) (hz : -1 <= z /\ z <= 1001) : BkSt c x len cap nB w (W.setCell ⟨nB,4,none⟩ (.int .i64 z)) ⟨b.nm,b.sz,b.m,b.rs,b.fx,z⟩ := by
  have p := h.st.put (i := 4) h.kB (Nat.le_of_lt h.nb) (.int .i64 z);exact ⟨⟨p.own,p.kc,p.u,p.lt,p.few,p.fit,p.nm,p.sz,hz⟩,set_at h.kB 4 _,h.other 4 _,h.nb⟩
theorem BkSt.map {c nB base : Nat} {x : Option Addr} {len cap : Nat} {w W : World} {b : Bk} (h : BkSt c x len cap nB w W b) (m : Value) (rs : List (Int × Int × Int)) (hl : rs.length <= 17) (hf : FitRuns rs) (hb : w.heap.size <= base) (own : W.ownsRow base 129 3 m rs.length (rs.flatMap runC)) : BkSt c x len cap nB w (W.setCell ⟨nB,2,none⟩ m) ⟨b.nm,b.sz,m,rs,b.fx,b.ep⟩ := by
  have p : BookSt c x len cap w (W.setCell ⟨nB,2,none⟩ m) ⟨b.nm,b.sz,m,rs,b.fx,b.ep⟩ := BookSt.put (b := ⟨b.nm,b.sz,m,rs,b.fx,b.ep⟩) (i := 2) ⟨owns_mono own hb,h.st.kc,h.st.u,h.st.lt,hl,hf,h.st.nm,h.st.sz,h.st.ep⟩ h.kB (Nat.le_of_lt h.nb) m;exact ⟨p,set_at h.kB 2 _,h.other 2 _,h.nb⟩
theorem belowM_few (rs : List (Int × Int × Int)) (n : Int) : (belowM rs n).length <= 17 := by
  unfold belowM
  split
  · have := mapOf_len (cutAt (pages rs) n)
    rw [cutAt_length] at this
    omega
  · simp
set_option maxRecDepth 100000 in
set_option maxHeartbeats 6400000 in
theorem draw6_any (c : Nat) (x : Option Addr) (len cap : Nat) (w : World) (hc : Cur w c x len cap) :
    Calls Tryz.prog 92 #[.pointer (some ⟨c,0,none⟩)] w fun e w' => ∃ b : Bk,e = .returned (.agg #[.string b.nm,.int .i64 b.sz,b.m,.bool b.fx,.int .i64 b.ep]) /\ BookSt c x len cap w w' b := by
  have hlt := hc.lt;obtain ⟨W0,hW0,kR,d0,z0⟩ := box1 w #[.string ⟨#[]⟩,.int .i64 0,.slice none 0 0,.bool false,.int .i64 0] 87;have kc : Cur W0 c x len cap := hc.below d0;have u : Upto c w W0 := Upto.ofBelow d0;have HW0 : Hid (W0 = _) := hW0;have sR : w.heap.size < W0.heap.size := by omega
  clear hW0 hc d0 z0
  go_enter Tryz.func92,Tryz.ntmps92
  go_wp2_with fail
  rw [<- HW0.out];clear HW0;refine (name_any c x len cap _ kc).mono ?_;rintro e w1 ⟨nm,rfl,hnm,u1,k1⟩;replace kR := (u1.block _ sR (by omega)).trans kR;replace sR := Nat.lt_of_lt_of_le sR u1.size;replace u := u.trans u1;clear u1 kc
  go_wp2_with fail
  refine (below_any c x len cap 16 _ (by omega) k1).mono ?_;rintro e w2 ⟨m,rfl,hm,u1,k2⟩;have hm16 : m < 16 := hm.2.1 (by omega);have hm0 := hm.1;replace kR := (u1.block _ sR (by omega)).trans kR;replace sR := Nat.lt_of_lt_of_le sR u1.size;replace u := u.trans u1;clear u1 k1 hm
  go_wp2_with fail
  refine (draw5_any c x len cap _ k2).mono ?_;rintro e w3 ⟨g,cp,rs,rfl,ms⟩;have hu := u.size;replace kR := (ms.u.block _ sR (by omega)).trans kR;replace sR := Nat.lt_of_lt_of_le sR ms.u.size
  have s3 : BookSt c x len cap w w3 ⟨nm,1 + m,.slice (some ⟨g,0,none⟩) rs.length cp,rs,false,0⟩ := ⟨owns_mono ms.own hu,ms.kc,u.trans ms.u,hlt,ms.few,ms.fit,hnm,by simp only;omega,by simp only;omega⟩
  clear u ms k2 hu
  go_wp2_with fail
  refine (once_any c x len cap 3 _ (by omega) s3.kc).mono ?_;rintro e w4 ⟨fx,rfl,u1,k1⟩;replace s3 := s3.step u1 k1;replace kR := (u1.block _ sR (by omega)).trans kR;replace sR := Nat.lt_of_lt_of_le sR u1.size;clear u1 k1
  go_wp2_with fail
  refine (below_any c x len cap 4 _ (by omega) s3.kc).mono ?_;rintro e w5 ⟨ep,rfl,hm,u1,k1⟩;have he : -1 <= ep /\ ep <= 1001 := by have := hm.2.1 (by omega);have := hm.1;omega
  replace s3 := s3.step u1 k1;replace kR := (u1.block _ sR (by omega)).trans kR;replace sR := Nat.lt_of_lt_of_le sR u1.size;clear u1 k1 hm
  have s5 : BookSt c x len cap w w5 ⟨nm,1 + m,.slice (some ⟨g,0,none⟩) rs.length cp,rs,fx,ep⟩ := ⟨s3.own,s3.kc,s3.u,s3.lt,s3.few,s3.fit,s3.nm,s3.sz,he⟩
  have bP : Below w5.heap.size w5 (w5.alloc (.cells #[.string nm,.int .i64 (1 + m),.slice (some ⟨g,0,none⟩) rs.length cp,.bool fx,.int .i64 ep] 87)) := bw_alloc (Below.refl _ _);have kB := heap_alloc_new w5 (.cells #[.string nm,.int .i64 (1 + m),.slice (some ⟨g,0,none⟩) rs.length cp,.bool fx,.int .i64 ep] 87)
  have st : BkSt c x len cap w5.heap.size w (w5.alloc (.cells #[.string nm,.int .i64 (1 + m),.slice (some ⟨g,0,none⟩) rs.length cp,.bool fx,.int .i64 ep] 87)) ⟨nm,1 + m,.slice (some ⟨g,0,none⟩) rs.length cp,rs,fx,ep⟩ := ⟨s5.below bP,kB,(bP.block _ sR).trans kR,sR⟩
  clear s3 s5 bP kB kR
  go_upto_region 2 with fail
  generalize w5.alloc (.cells #[.string nm,.int .i64 (1 + m),.slice (some ⟨g,0,none⟩) rs.length cp,.bool fx,.int .i64 ep] 87) = W6 at *;generalize w5.heap.size = nB at *;generalize hb0 : (⟨nm,1 + m,.slice (some ⟨g,0,none⟩) rs.length cp,rs,fx,ep⟩ : Bk) = b0 at st;have hm2 : b0.m = .slice (some ⟨g,0,none⟩) rs.length cp := by rw [<- hb0]
  clear hb0 hm16 hm0 he sR
  go_cut [23] (fun v wx => ∃ y : Bool,v = .bool y /\ BkSt c x len cap nB w wx b0)
  case first =>
    have p2 := at_cell st.kB 2;obtain ⟨o1,c1,hf⟩ := st.st.form;have rd := st.st.reads;rw [hf] at p2 rd
    go_wp2_with fail
    refine (specMapOk_any _ b0.rs _ rd).mono ?_;rintro e w7 ⟨rfl,b7⟩;have st7 := st.below b7;clear b7 st p2 rd;cases mapOk b0.rs
    · go_wp2_with fail
      go_meet
      exact ⟨false,rfl,st7⟩
    · go_wp2_with fail
      refine (once_any c x len cap 5 _ (by omega) st7.st.kc).mono ?_;rintro e w8 ⟨y,rfl,u1,k1⟩;have st8 := st7.step u1 k1;clear st7 u1 k1
      go_wp2_with fail
      go_meet
      exact ⟨!y,rfl,st8⟩
  case rest =>
    obtain ⟨y,rfl,st7⟩ := hcut;clear st
    go_upto_if 23 with fail
    go_cut [] (fun wx => ∃ b : Bk,BkSt c x len cap nB w wx b)
    case first =>
      cases y
      · go_wp2_with fail
        go_meet
        exact ⟨b0,st7⟩
      · obtain ⟨o1,c1,hf⟩ := st7.st.form
        have p1 := at_cell st7.kB 1;have p2 := at_cell st7.kB 2;have rd := st7.st.reads;rw [hf] at p2 rd;have hsz := st7.st.sz
        go_wp2_with fail
        refine (specBelow_any _ b0.rs b0.sz _ (by omega) rd).mono ?_;rintro e w8 ⟨v',rfl,own8,-,b8⟩;have hw := st7.st.u.size;have st8 := st7.below b8;have q2 := at_cell st8.kB 2;have f2 := at_open st8.kB 2;have HS : Hid _ := st8.map v' _ (belowM_few _ _) (fit_below b0.rs b0.sz) hw own8;obtain ⟨o2,c2,hf2⟩ := own_slice own8;subst hf2;rw [hf] at q2;clear st7 st8 own8 b8 p1 p2 rd
        go_wp2_with fail
        go_meet
        exact ⟨_,HS.out⟩
    case rest =>
      obtain ⟨b,st8⟩ := hcut;clear st7 hm2
      go_wp2_with fail
      refine (once_any c x len cap 10 _ (by omega) st8.st.kc).mono ?_;rintro e w9 ⟨y2,rfl,u1,k1⟩;have st9 := st8.step u1 k1;clear st8 u1 k1
      go_upto_if 31 with fail
      go_cut [] (fun wx => ∃ b : Bk,BkSt c x len cap nB w wx b)
      case first =>
        cases y2
        · go_wp2_with fail
          go_meet
          exact ⟨b,st9⟩
        · go_wp2_with fail
          refine (below_any c x len cap 3 _ (by omega) st9.st.kc).mono ?_;rintro e wa ⟨m3,rfl,hm3,u1,k1⟩;have sta := st9.step u1 k1;have hm : m3 = 0 \/ m3 = 1 \/ m3 = 2 := by have := hm3.2.1 (by omega);omega
          clear u1 k1 st9 hm3;rcases hm with rfl | rfl | rfl
          · go_wp2_with fail
            refine (below_any c x len cap 3 _ (by omega) (sta.alloc _).st.kc).mono ?_;rintro e wb ⟨y,rfl,hy,u1,k1⟩;have stb := (sta.alloc _).step u1 k1;have hy3 := hy.2.1 (by omega);obtain ⟨jn,rfl⟩ := Int.eq_ofNat_of_zero_le hy.1
            obtain ⟨z,hz,hzs⟩ : ∃ z : ByteArray,wb.cell? ⟨wa.heap.size,jn,none⟩ = some (.string z) /\ z.size <= 5 := by
              rw [pick_cell u1 sta.st.kc.lt jn];have h3 : jn = 0 \/ jn = 1 \/ jn = 2 := by omega
              rcases h3 with rfl | rfl | rfl <;> exact ⟨_,rfl,by decide⟩
            have q0 := at_cell stb.kB 0;have f0 := at_open stb.kB 0;have HS : Hid _ := stb.name z hzs;clear u1 k1 sta stb hy
            go_wp2_with fail
            go_meet
            exact ⟨_,HS.out⟩
          · go_wp2_with fail
            refine (below_any c x len cap 4 _ (by omega) (sta.alloc _).st.kc).mono ?_;rintro e wb ⟨y,rfl,hy,u1,k1⟩;have stb := (sta.alloc _).step u1 k1;have hy3 := hy.2.1 (by omega);obtain ⟨jn,rfl⟩ := Int.eq_ofNat_of_zero_le hy.1
            obtain ⟨z,hz,hzs⟩ : ∃ z : Int,wb.cell? ⟨wa.heap.size,jn,none⟩ = some (.int .i64 z) /\ (-1 <= z /\ z <= 17) := by
              rw [pick_cell u1 sta.st.kc.lt jn];have h3 : jn = 0 \/ jn = 1 \/ jn = 2 \/ jn = 3 := by omega
              rcases h3 with rfl | rfl | rfl | rfl <;> exact ⟨_,rfl,by decide⟩
            have q0 := at_cell stb.kB 1;have f0 := at_open stb.kB 1;have HS : Hid _ := stb.size z hzs;clear u1 k1 sta stb hy
            go_wp2_with fail
            go_meet
            exact ⟨_,HS.out⟩
          · go_wp2_with fail
            refine (below_any c x len cap 3 _ (by omega) (sta.alloc _).st.kc).mono ?_;rintro e wb ⟨y,rfl,hy,u1,k1⟩;have stb := (sta.alloc _).step u1 k1;have hy3 := hy.2.1 (by omega);obtain ⟨jn,rfl⟩ := Int.eq_ofNat_of_zero_le hy.1
            obtain ⟨z,hz,hzs⟩ : ∃ z : Int,wb.cell? ⟨wa.heap.size,jn,none⟩ = some (.int .i64 z) /\ (-1 <= z /\ z <= 1001) := by
              rw [pick_cell u1 sta.st.kc.lt jn];have h3 : jn = 0 \/ jn = 1 \/ jn = 2 := by omega
              rcases h3 with rfl | rfl | rfl <;> exact ⟨_,rfl,by decide⟩
            have q0 := at_cell stb.kB 4;have f0 := at_open stb.kB 4;have HS : Hid _ := stb.epoch z hzs;clear u1 k1 sta stb hy
            go_wp2_with fail
            go_meet
            exact ⟨_,HS.out⟩
      case rest =>
        obtain ⟨b9,sa⟩ := hcut;clear st9;obtain ⟨bn,bz,bm,br,bf,be⟩ := b9;obtain ⟨o1,c1,hf⟩ := sa.st.form;simp only at hf;subst hf;obtain ⟨p0,p1,p2,p3,p4⟩ := c5 sa.kB;obtain ⟨q0,q1,q2,q3,q4⟩ := c5 sa.kR;obtain ⟨f0,f1,f2,f3,f4⟩ := o5 sa.kR;have e1 := sa.st.put (i := 0) sa.kR (Nat.le_refl _) (.string bn);have j1 := set_at sa.kR 0 (.string bn);have e2 := e1.put (i := 1) j1 (Nat.le_refl _) (.int .i64 bz);have j2 := set_at j1 1 (.int .i64 bz);have e3 := e2.put (i := 2) j2 (Nat.le_refl _) (.slice o1 br.length c1);have j3 := set_at j2 2 (.slice o1 br.length c1);have e4 := e3.put (i := 3) j3 (Nat.le_refl _) (.bool bf);have j4 := set_at j3 3 (.bool bf);have e5 := e4.put (i := 4) j4 (Nat.le_refl _) (.int .i64 be);have HS : Hid _ := And.intro (set_five sa.kR (.string bn) (.int .i64 bz) (.slice o1 br.length c1) (.bool bf) (.int .i64 be)) e5;clear e1 e2 e3 e4 e5 j1 j2 j3 j4 sa;simp only at p0 p1 p2 p3 p4
        go_wp2_with fail
        exact bodyPost_ret (v := .agg #[.string bn,.int .i64 bz,.slice o1 br.length c1,.bool bf,.int .i64 be]) (by simp [results,Tryz.results92,go_sem,at_cell HS.out.1]) rfl ⟨_,rfl,HS.out.2⟩
end Go.Proofs.YtcefcglonooelaaGreatDoor
namespace Go.Proofs.YtcefcglonooelaaGreatDoor
open Go.RowKit
set_option linter.unusedVariables false
set_option maxRecDepth 100000
theorem new_five (w : World) (b : Bk) (t : TypeId) : ∀ (j : Nat) (u : Value),(bookC b)[j]? = some u -> (w.alloc (.cells #[.string b.nm,.int .i64 b.sz,b.m,.bool b.fx,.int .i64 b.ep] t)).cell? ((⟨w.heap.size,0,none⟩ : Addr).add j) = some u := by
  intro j u hj;rw [addr_add];have e := World.cell?_alloc_mark w #[.string b.nm,.int .i64 b.sz,b.m,.bool b.fx,.int .i64 b.ep] t (0,0) j;exact e.trans ((show (#[Value.string b.nm,.int .i64 b.sz,b.m,.bool b.fx,.int .i64 b.ep] : Array Value)[j]? = (bookC b)[j]? by simp [bookC]).trans hj)
theorem one_book (b : Bk) (h : ∃ o k cp,b.m = .slice o k cp) : ∀ u ∈ bookC b,u.oneCell' = true := fun u hu => by
  obtain ⟨o,k,cp,h⟩ := h;simp [bookC,h] at hu;rcases hu with rfl | rfl | rfl | rfl | rfl <;> rfl
theorem own_grown {w w' : World} {base base' : Nat} {e e' : TypeId} {k k' : Nat} {v : Value} {n n' g cp : Nat} {xs ys : List Value} (h : w.ownsRow base e k v n xs) (r : w.ownsRow base' e' k' (.slice (some ⟨g,0,none⟩) n' cp) n' ys) (hne : e' ≠ e) (hg : w.grownBy w' (some g)) : w'.ownsRow base e k v n xs := by
  have u : Upto g w w' := (Upto.refl g w).grown hg (fun q hq => .inr (by cases hq;rfl))
  rcases r.2 with ⟨h0,_⟩ | ⟨g',cap',cur,h0,_,hh,_⟩
  · simp at h0
  · simp at h0
    obtain ⟨rfl,_⟩ := h0;have hv := own_not_box h hh hne;exact own_rng_not h (fun q hq hqv => u.block q hq (fun e => hv (by rw [<- e];exact hqv)))
structure Drawn (w : World) (b : Bk) : Prop where
  reads : ReadsR 3 runC w.heap.size w b.m b.rs
  fit : FitRuns b.rs
  nm : b.nm.size <= maxLen
theorem Drawn.below {w w' : World} {b : Bk} (h : Drawn w b) (k : Below w.heap.size w w') : Drawn w' b := ⟨(h.reads.below k).mono k.size,h.fit,h.nm⟩
theorem flat_src {α : Type} {k : Nat} {cs : α -> List Value} (hk : ∀ x,(cs x).length = k) (hk0 : 0 < k) {B : Nat} {w : World} {o : Option Addr} {n cap : Nat} {xs : List α} (h : ReadsR k cs B w (.slice o n cap) xs) : ∀ j u,(xs.flatMap cs)[j]? = some u -> ∃ g off,o = some ⟨g,off,none⟩ /\ w.cell? ⟨g,off + j,none⟩ = some u := fun j u hj => by
  obtain ⟨o',cap',e,-,hc,-⟩ := h;simp only [Value.slice.injEq] at e;obtain ⟨rfl,rfl,rfl⟩ := e;have hjl := (List.getElem?_eq_some_iff.1 hj).1;rw [flat_length hk] at hjl;have hi3 : j / k < xs.length := Nat.div_lt_of_lt_mul (by rw [Nat.mul_comm];exact hjl);obtain ⟨g,off,e,hg,hx⟩ := hc (j / k) xs[j / k] (List.getElem?_eq_getElem hi3);refine ⟨g,off,e,?_⟩;have hm := Nat.mod_lt j hk0;have hd : j / k * k + j % k = j := by rw [Nat.mul_comm];exact Nat.div_add_mod j k
  have hf := flat_get hk xs (j / k) (j % k) xs[j / k] (List.getElem?_eq_getElem hi3) hm;rw [hd] at hf;have := hx (j % k) u (by rw [<- hf];exact hj)
  rwa [show off + j / k * k + j % k = off + j by omega] at this
theorem runs_one (rs : List (Int × Int × Int)) : ∀ u ∈ rs.flatMap runC,u.oneCell' = true := fun u hu => by
  obtain ⟨x,_,hx⟩ := List.mem_flatMap.1 hu;simp [runC] at hx;rcases hx with rfl | rfl | rfl <;> rfl
theorem books_one (bs : List Bk) (h : ∀ b ∈ bs,∃ o k cp,b.m = .slice o k cp) : ∀ u ∈ bs.flatMap bookC,u.oneCell' = true := fun u hu => by
  obtain ⟨x,hx1,hx⟩ := List.mem_flatMap.1 hu;exact one_book x (h x hx1) u hx
theorem ReadsR.drop {α : Type} {k : Nat} {cs : α -> List Value} {B : Nat} {w : World} {g off n cap : Nat} {xs : List α} (h : ReadsR k cs B w (.slice (some ⟨g,off,none⟩) n cap) xs) (i : Nat) (hi : i <= n) : ReadsR k cs B w (.slice (some ⟨g,off + i * k,none⟩) (n - i) (cap - i)) (xs.drop i) := by
  obtain ⟨o',cap',e,hm,hc,hr⟩ := h;simp only [Value.slice.injEq] at e;obtain ⟨rfl,rfl,rfl⟩ := e;refine ⟨_,_,by rw [List.length_drop],by rw [List.length_drop];omega,fun j x hj => ?_,by rw [List.length_drop];omega⟩;rw [List.getElem?_drop] at hj;obtain ⟨g',off',e,hg,hx⟩ := hc (i + j) x hj;simp only [Option.some.injEq,Addr.mk.injEq,and_true] at e;obtain ⟨rfl,rfl⟩ := e;refine ⟨g,off + i * k,rfl,hg,fun q u hq => ?_⟩;have := hx q u hq
  rwa [show off + (i + j) * k + q = off + i * k + j * k + q by rw [Nat.add_mul];omega] at this
theorem ReadsR.take {α : Type} {k : Nat} {cs : α -> List Value} {B : Nat} {w : World} {o : Option Addr} {n cap : Nat} {xs : List α} (h : ReadsR k cs B w (.slice o n cap) xs) (i : Nat) (hi : i <= n) : ReadsR k cs B w (.slice o i cap) (xs.take i) := by
  obtain ⟨o',cap',e,hm,hc,hr⟩ := h;simp only [Value.slice.injEq] at e;obtain ⟨rfl,rfl,rfl⟩ := e;have hl : (xs.take i).length = i := by rw [List.length_take];omega
  refine ⟨_,_,by rw [hl],by rw [hl];omega,fun j x hj => ?_,by rw [hl];omega⟩;rw [List.getElem?_take] at hj
  split at hj
  · exact hc j x hj
  · cases hj
theorem own_box {w : World} {base b : Nat} {e t : TypeId} {k n : Nat} {v : Value} {xs : List Value} {cs : Array Value} (h : w.ownsRow base e k v n xs) (hb : w.heap[b]? = some (.cells cs t (0,0))) (ht : t ≠ e) (i : Nat) (u : Value) : (w.setCell ⟨b,i,none⟩ u).ownsRow base e k v n xs :=
  own_rng_not h (fun q hq hqv => Below.heap_setCell w ⟨b,i,none⟩ u q (fun hx => own_not_box h hb ht (by rw [hqv];exact congrArg some hx)))
structure ShSt (base b : Nat) (w : World) (v1 v2 vb : Value) (bks : List Bk) (s : Sf) : Prop where
  box : w.heap[b]? = some (.cells #[v1,v2,vb] 42 (0,0))
  lo : base <= b
  pool : OwnP base w v1 v2 s.cs s.ps
  books : OwnB base w vb bks
  eq : bks.map Bk.pb = s.bs
theorem ShSt.below {base b : Nat} {w w' : World} {v1 v2 vb : Value} {bks : List Bk} {s : Sf} (h : ShSt base b w v1 v2 vb bks s) (k : Below w.heap.size w w') : ShSt base b w' v1 v2 vb bks s :=
  ⟨(k.block _ (heap_lt h.box)).trans h.box,h.lo,h.pool.below k,h.books.below k,h.eq⟩
theorem ShSt.forms {base b : Nat} {w : World} {v1 v2 vb : Value} {bks : List Bk} {s : Sf} (h : ShSt base b w v1 v2 vb bks s) : ∀ x ∈ bks,∃ o k cp,x.m = .slice o k cp := fun x hx => by
  obtain ⟨o,cp,e⟩ := own_slice (h.books.maps x hx);exact ⟨o,_,cp,e⟩
theorem ShSt.len {base b : Nat} {w : World} {v1 v2 vb : Value} {bks : List Bk} {s : Sf} (h : ShSt base b w v1 v2 vb bks s) : bks.length = s.bs.length := by rw [<- h.eq,List.length_map]
theorem rows_apart {w : World} {base base' : Nat} {e e' : TypeId} {k k' : Nat} {v v' : Value} {n n' : Nat} {xs ys : List Value} (h : w.ownsRow base e k v n xs) (h' : w.ownsRow base' e' k' v' n' ys) (hne : e' ≠ e) (g : Nat) (hg : v'.ownBlock = some g) : v.ownBlock ≠ some g := by
  rcases h'.2 with ⟨rfl,_⟩ | ⟨g',cap',cur,rfl,_,hh,_⟩
  · simp [Value.ownBlock] at hg
  · simp [Value.ownBlock] at hg
    subst hg;exact own_not_box h hh hne
theorem ShSt.pooled {base b : Nat} {w w' : World} {v1 v2 vb : Value} {bks : List Bk} {s : Sf} (h : ShSt base b w v1 v2 vb bks s) {cs ps : List Int} (own : OwnP base w' v1 v2 cs ps) (k : Only (fun i => v1.ownBlock = some i \/ v2.ownBlock = some i) w w') : ShSt base b w' v1 v2 vb bks ⟨cs,ps,s.bs⟩ := by
  have nb : ∀ (e : TypeId) (kk n : Nat) (v : Value) (xs : List Value),2 ≠ e -> w.ownsRow base e kk v n xs -> w'.ownsRow base e kk v n xs := fun e kk n v xs he hr =>
    own_only hr k (fun g hg hS => by
      rcases hS with q | q
      · exact rows_apart hr h.pool.c he g q hg
      · exact rows_apart hr h.pool.p he g q hg)
  refine ⟨?_,h.lo,own,⟨nb _ _ _ _ _ (by decide) h.books.row,fun x hx => nb _ _ _ _ _ (by decide) (h.books.maps x hx)⟩,h.eq⟩;refine (k.block b (heap_lt h.box) (fun hS => ?_)).trans h.box;rcases hS with q | q
  · exact own_not_box h.pool.c h.box (by decide) q
  · exact own_not_box h.pool.p h.box (by decide) q
theorem ShSt.pool_only {base b : Nat} {w w' : World} {v1 v2 vb : Value} {bks : List Bk} {s : Sf} (h : ShSt base b w v1 v2 vb bks s) (k : Only (fun i => v1.ownBlock = some i \/ v2.ownBlock = some i) w w') : Below base w w' :=
  k.toBelow (Nat.le_trans h.lo (Nat.le_of_lt (heap_lt h.box))) (fun i hi => by
    rcases hi with q | q
    · exact (h.pool.c.lt i q).1
    · exact (h.pool.p.lt i q).1)
theorem ShSt.put {base b g n cap : Nat} {w : World} {v1 v2 : Value} {bks : List Bk} {s : Sf} (h : ShSt base b w v1 v2 (.slice (some ⟨g,0,none⟩) n cap) bks s) (i j : Nat) (hi : i < bks.length) (hj : j < 5) (y : Bk) (u : Value) (hy : (bookC bks[i]).set j u = bookC y) (hm : w.ownsRow base 129 3 y.m y.rs.length (y.rs.flatMap runC)) :
    ShSt base b (w.setCell ⟨g,i * 5 + j,none⟩ u) v1 v2 (.slice (some ⟨g,0,none⟩) n cap) (bks.set i y) ⟨s.cs,s.ps,s.bs.set i y.pb⟩ /\ Below base w (w.setCell ⟨g,i * 5 + j,none⟩ u) := by
  have hg := h.books.row.lt g rfl;have ub : Upto g w (w.setCell ⟨g,i * 5 + j,none⟩ u) := (Upto.refl _ _).setCell ⟨g,i * 5 + j,none⟩ (.inl rfl) _
  obtain ⟨cur,hcur⟩ : ∃ cur,w.heap[g]? = some (.cells cur 87 (0,0)) := by
    rcases h.books.row.2 with ⟨e,_⟩ | ⟨g',cap',cur,e,_,hh,_⟩
    · simp at e
    · simp only [Value.slice.injEq,Option.some.injEq,Addr.mk.injEq,and_true] at e
      obtain ⟨rfl,_⟩ := e;exact ⟨cur,hh⟩
  have st : ∀ (e : TypeId) (kk n : Nat) (v : Value) (xs : List Value),87 ≠ e -> w.ownsRow base e kk v n xs -> (w.setCell ⟨g,i * 5 + j,none⟩ u).ownsRow base e kk v n xs := fun e kk n v xs he hr =>
    own_rng_not hr (fun q hq hqv => ub.block q hq (fun hx => own_not_box hr hcur he (by rw [<- hx];exact hqv)))
  refine ⟨⟨?_,h.lo,⟨st _ _ _ _ _ (by decide) h.pool.c,st _ _ _ _ _ (by decide) h.pool.p,h.pool.apart⟩,⟨own_put bookC_len h.books.row i j _ y u (List.getElem?_eq_getElem hi) hj hy,fun x hx => ?_⟩,?_⟩,ub.toBelow (Nat.le_trans h.lo (Nat.le_of_lt (heap_lt h.box))) hg.1⟩
  · refine (ub.block b (heap_lt h.box) (fun e => ?_)).trans h.box
    rw [<- e,h.box] at hcur;simp at hcur
  · rcases List.mem_or_eq_of_mem_set hx with q | rfl
    · exact st _ _ _ _ _ (by decide) (h.books.maps x q)
    · exact st _ _ _ _ _ (by decide) hm
  · rw [<- h.eq,List.map_set]
theorem ShSt.rebook {base b : Nat} {w : World} {v1 v2 vb vb' : Value} {bks bks' : List Bk} {s : Sf} (h : ShSt base b w v1 v2 vb bks s) (nb : OwnB base w vb' bks') : ShSt base b (w.setCell ⟨b,2,none⟩ vb') v1 v2 vb' bks' ⟨s.cs,s.ps,bks'.map Bk.pb⟩ /\ Below base w (w.setCell ⟨b,2,none⟩ vb') := by
  have ub : Upto b w (w.setCell ⟨b,2,none⟩ vb') := (Upto.refl _ _).setCell ⟨b,2,none⟩ (.inl rfl) _
  have st : ∀ (e : TypeId) (kk n : Nat) (v : Value) (xs : List Value),42 ≠ e -> w.ownsRow base e kk v n xs -> (w.setCell ⟨b,2,none⟩ vb').ownsRow base e kk v n xs := fun e kk n v xs he hr =>
    own_rng_not hr (fun q hq hqv => ub.block q hq (fun hx => own_not_box hr h.box he (by rw [<- hx];exact hqv)))
  exact ⟨⟨set_at h.box 2 vb',h.lo,⟨st _ _ _ _ _ (by decide) h.pool.c,st _ _ _ _ _ (by decide) h.pool.p,h.pool.apart⟩,⟨st _ _ _ _ _ (by decide) nb.row,fun x hx => st _ _ _ _ _ (by decide) (nb.maps x hx)⟩,rfl⟩,ub.toBelow (Nat.le_trans h.lo (Nat.le_of_lt (heap_lt h.box))) h.lo⟩
def ShW (b : Nat) (v1 v2 vb : Value) (i : Nat) : Prop := i = b \/ v1.ownBlock = some i \/ v2.ownBlock = some i \/ vb.ownBlock = some i
theorem ShSt.only_below {base b : Nat} {w w' : World} {v1 v2 vb : Value} {bks : List Bk} {s : Sf} (h : ShSt base b w v1 v2 vb bks s) (k : Only (ShW b v1 v2 vb) w w') : Below base w w' :=
  k.toBelow (Nat.le_trans h.lo (Nat.le_of_lt (heap_lt h.box))) (fun i hi => by
    rcases hi with q | q | q | q
    · rw [q];exact h.lo
    · exact (h.pool.c.lt i q).1
    · exact (h.pool.p.lt i q).1
    · exact (h.books.row.lt i q).1)
theorem ShSt.keeps {base b n : Nat} {w w' : World} {v1 v2 vb : Value} {bks : List Bk} {s : Sf} {cs : Array Value} {T : TypeId} (h : ShSt base b w v1 v2 vb bks s) (k : Only (ShW b v1 v2 vb) w w') (hb : w.heap[n]? = some (.cells cs T (0,0))) (t1 : T ≠ 42) (t2 : T ≠ 2) (t3 : T ≠ 87) : w'.heap[n]? = some (.cells cs T (0,0)) := by
  refine (k.block n (heap_lt hb) (fun hi => ?_)).trans hb;rcases hi with q | q | q | q
  · rw [q,h.box] at hb
    simp at hb;exact t1 hb.2.symm
  · exact own_not_box h.pool.c hb t2 q
  · exact own_not_box h.pool.p hb t2 q
  · exact own_not_box h.books.row hb t3 q
theorem ShSt.keeps_b {base b n : Nat} {w w' : World} {v1 v2 vb : Value} {bks : List Bk} {s : Sf} {cs : Array Value} {T : TypeId} (h : ShSt base b w v1 v2 vb bks s) (k : Only (fun i => i = b) w w') (hb : w.heap[n]? = some (.cells cs T (0,0))) (t1 : T ≠ 42) : w'.heap[n]? = some (.cells cs T (0,0)) := by
  refine (k.block n (heap_lt hb) (fun hi => ?_)).trans hb;rw [hi,h.box] at hb;simp at hb;exact t1 hb.2.symm
end Go.Proofs.YtcefcglonooelaaGreatDoor
