import Derived.Test.YtcefcglonooelaaGreatDoorA13
import Derived.Test.YtcefcglonooelaaGreatDoorA25
import Derived.Test.YtcefcglonooelaaGreatDoorA27
import Derived.Test.YtcefcglonooelaaGreatDoorA28
import Derived.Test.YtcefcglonooelaaGreatDoorA30
namespace Go.Proofs.YtcefcglonooelaaGreatDoor
open Go.RowKit
set_option linter.unusedVariables false
set_option maxRecDepth 100000
theorem fit_ok {rs : List (Int × Int × Int)} (h : mapOk rs = true) : FitRuns rs := by
  have := fit_of (pages rs) (pages_length rs) (pages_range rs h)
  rwa [mapOf_pages rs h] at this
theorem new_names {bks : List Bk} {n : ByteArray} (h : findP (bks.map Bk.pb) n < 0) : ∀ x ∈ bks,x.nm ≠ n := fun x hx => find_not (bks.map Bk.pb) n h x.pb (List.mem_map_of_mem hx)
end Go.Proofs.YtcefcglonooelaaGreatDoor
namespace Go.Proofs.YtcefcglonooelaaGreatDoor
open Go.RowKit
set_option linter.unusedVariables false
structure BkFit (y : Bk) : Prop where
  nm : y.nm.size <= 5
  ep : -1 <= y.ep /\ y.ep <= 1001
  fit : FitRuns y.rs
  few : y.rs.length <= 17
structure D8 (c : Nat) (x : Option Addr) (len cap : Nat) (w W : World) (v1 v2 vb : Value) (cs ps : List Int) (bks : List Bk) : Prop where
  p : RP W.heap.size W v1 v2 cs ps
  p0 : ∀ b,b <= w.heap.size -> v1.ownBlock ≠ some b /\ v2.ownBlock ≠ some b
  b : OwnB (w.heap.size + 1) W vb bks
  kc : Cur W c x len cap
  u : Upto c w W
  lt : c < w.heap.size
  bf : ∀ y ∈ bks,BkFit y
  few : bks.length <= 7
theorem D8.step {c : Nat} {x : Option Addr} {len cap : Nat} {w W W' : World} {v1 v2 vb : Value} {cs ps : List Int} {bks : List Bk} (h : D8 c x len cap w W v1 v2 vb cs ps bks) (u : Upto c W W') (kc : Cur W' c x len cap) : D8 c x len cap w W' v1 v2 vb cs ps bks := by
  have hlt := h.lt;have hp := h.p0 c (by omega);exact ⟨(h.p.upto u (Nat.le_refl _) hp.1 hp.2).mono u.size,h.p0,⟨ownsRow_upto h.b.row u (by omega),fun y hy => ownsRow_upto (h.b.maps y hy) u (by omega)⟩,kc,h.u.trans u,h.lt,h.bf,h.few⟩
theorem D8.below {c : Nat} {x : Option Addr} {len cap : Nat} {w W W' : World} {v1 v2 vb : Value} {cs ps : List Int} {bks : List Bk} (h : D8 c x len cap w W v1 v2 vb cs ps bks) (k : Below W.heap.size W W') : D8 c x len cap w W' v1 v2 vb cs ps bks :=
  h.step (Upto.ofBelow k) (h.kc.below k)
structure A8 (c : Nat) (x : Option Addr) (len cap nB : Nat) (w W : World) (v1 v2 vb : Value) (cs ps : List Int) (bks : List Bk) : Prop where
  d : D8 c x len cap w W v1 v2 vb cs ps bks
  kB : W.heap[nB]? = some (.cells #[v1,v2,vb] 42 (0,0))
  kR : W.heap[w.heap.size]? = some (.cells #[.slice none 0 0,.slice none 0 0,.slice none 0 0] 42 (0,0))
theorem own_ge {w : World} {base : Nat} {e : TypeId} {k n : Nat} {v : Value} {xs : List Value} (h : w.ownsRow base e k v n xs) {b : Nat} (hb : b < base) : v.ownBlock ≠ some b := fun e => by have := (h.lt b e).1;omega
theorem runs_few {rs : List (Int × Int × Int)} (h : mapOk rs = true) : rs.length <= 16 := by
  rw [mapOk,Bool.and_eq_true,decide_eq_true_iff] at h;exact h.2
theorem fit_right {y : Bk} {s : Sf} (inv : ShInv s) (hm : y.pb ∈ s.bs) : BkFit y := by
  have hk := inv.oks _ hm;simp only [Pb.ok,bookOk,Bool.and_eq_true,decide_eq_true_eq] at hk;have h1 := nameB_size _ hk.1.1.1.1;have h2 := hk.1.1.2;have h3 : mapOk y.rs = true := hk.1.2;have h4 : (Bk.pb y).nm = y.nm := rfl;have h5 : (Bk.pb y).ep = y.ep := rfl;rw [h4] at h1;rw [h5] at h2;exact ⟨by omega,by omega,fit_ok h3,Nat.le_succ_of_le (runs_few h3)⟩
theorem L8.fits {c base b : Nat} {x : Option Addr} {len cap : Nat} {w W : World} {v1 v2 vb : Value} {bks : List Bk} {s : Sf} (h : L8 c x len cap base b w W v1 v2 vb bks s) : ∀ y ∈ bks,BkFit y := fun y hy => fit_right h.inv (by rw [<- h.st.eq];exact List.mem_map_of_mem hy)
theorem A8.of {c nB : Nat} {x : Option Addr} {len cap : Nat} {w W : World} {v1 v2 vb : Value} {bks : List Bk} {s : Sf} (st : ShSt (w.heap.size + 1) nB W v1 v2 vb bks s) (kR : W.heap[w.heap.size]? = some (.cells #[.slice none 0 0,.slice none 0 0,.slice none 0 0] 42 (0,0))) (kc : Cur W c x len cap) (u : Upto c w W) (lt : c < w.heap.size) (bf : ∀ y ∈ bks,BkFit y) (few : bks.length <= 7) : A8 c x len cap nB w W v1 v2 vb s.cs s.ps bks :=
  ⟨⟨st.pool.reads,fun b hb => ⟨own_ge st.pool.c (by omega),own_ge st.pool.p (by omega)⟩,st.books,kc,u,lt,bf,few⟩,st.box,kR⟩
theorem L8.toA {c nB : Nat} {x : Option Addr} {len cap : Nat} {w W : World} {v1 v2 vb : Value} {bks : List Bk} {s : Sf} (h : L8 c x len cap (w.heap.size + 1) nB w W v1 v2 vb bks s) : A8 c x len cap nB w W v1 v2 vb s.cs s.ps bks :=
  A8.of h.st h.kR h.kc h.u h.lt h.fits (Nat.le_succ_of_le h.few)
theorem grown_keep {w w' : World} {base : Nat} {vb : Value} {n : Nat} {xs : List Value} (hb : w.ownsRow base 87 5 vb n xs) (hg : w.grownBy w' vb.ownBlock) :
    (∀ (e : TypeId) (kk m : Nat) (v : Value) (ys : List Value),87 ≠ e -> w.ownsRow base e kk v m ys -> w'.ownsRow base e kk v m ys) /\ (∀ (k : Nat) (cs : Array Value) (T : TypeId),T ≠ 87 -> w.heap[k]? = some (.cells cs T (0,0)) -> w'.heap[k]? = some (.cells cs T (0,0))) /\ ∀ k,k < w.heap.size -> k < base -> w'.heap[k]? = w.heap[k]? := by
  refine ⟨fun e kk m v ys he hr => own_rng_not hr (fun q hq hqv => hg.block q hq (fun hx => ?_)),fun k cs T hT hk => (hg.block k (heap_lt hk) (fun hx => ?_)).trans hk,fun k hk hkb => hg.block k hk (fun hx => ?_)⟩
  · exact rows_apart hb hr (fun h => he h.symm) q hqv hx.symm
  · exact own_not_box hb hk hT hx.symm
  · have := (hb.lt k hx.symm).1
    omega
theorem box_books {base nB : Nat} {W : World} {v1 v2 vb vb' : Value} {cs ps : List Int} {bks : List Bk} (kB : W.heap[nB]? = some (.cells #[v1,v2,vb] 42 (0,0))) (P : OwnP base W v1 v2 cs ps) (B : OwnB base W vb' bks) :
    (W.setCell ⟨nB,2,none⟩ vb').heap[nB]? = some (.cells #[v1,v2,vb'] 42 (0,0)) /\ OwnP base (W.setCell ⟨nB,2,none⟩ vb') v1 v2 cs ps /\ OwnB base (W.setCell ⟨nB,2,none⟩ vb') vb' bks :=
  ⟨set_at kB 2 vb',⟨own_box P.c kB (by decide) 2 vb',own_box P.p kB (by decide) 2 vb',P.apart⟩,⟨own_box B.row kB (by decide) 2 vb',fun y hy => own_box (B.maps y hy) kB (by decide) 2 vb'⟩⟩
theorem L8.rebooked {c nB : Nat} {x : Option Addr} {len cap : Nat} {w W1 W' : World} {v1 v2 vb vr v' : Value} {bks bks' : List Bk} {s : Sf} {n : Nat} {xs : List Value} (h : L8 c x len cap (w.heap.size + 1) nB w W1 v1 v2 vb bks s) (hr : W1.ownsRow (w.heap.size + 1) 87 5 vr n xs) (hg : W1.grownBy W' vr.ownBlock)
    (own' : W'.ownsRow (w.heap.size + 1) 87 5 v' bks'.length (bks'.flatMap bookC)) (maps' : ∀ y ∈ bks',W1.ownsRow (w.heap.size + 1) 129 3 y.m y.rs.length (y.rs.flatMap runC)) (bf : ∀ y ∈ bks',BkFit y) (few : bks'.length <= 7) :
    W'.heap[nB]? = some (.cells #[v1,v2,vb] 42 (0,0)) /\ A8 c x len cap nB w (W'.setCell ⟨nB,2,none⟩ v') v1 v2 v' s.cs s.ps bks' := by
  have hlt := h.lt;have hlo := h.st.lo;have hbx := heap_lt h.st.box;obtain ⟨g1,g2,g3⟩ := grown_keep hr hg;have kB' := g2 nB _ _ (by decide) h.st.box
  have P' : OwnP (w.heap.size + 1) W' v1 v2 s.cs s.ps := ⟨g1 _ _ _ _ _ (by decide) h.st.pool.c,g1 _ _ _ _ _ (by decide) h.st.pool.p,h.st.pool.apart⟩
  have B' : OwnB (w.heap.size + 1) W' v' bks' := ⟨own',fun y hy => g1 _ _ _ _ _ (by decide) (maps' y hy)⟩
  have kR' := g2 w.heap.size _ _ (by decide) h.kR
  have hb : Below (w.heap.size + 1) W1 W' := ⟨hg.os,hg.tape,hg.output,hg.size,fun k hk => g3 k (by omega) hk⟩
  obtain ⟨q1,q2,q3⟩ := box_books kB' P' B';have uu : Upto nB W' (W'.setCell ⟨nB,2,none⟩ v') := (Upto.refl nB W').setCell ⟨nB,2,none⟩ (.inl rfl) _
  have hu : Upto c w W' := ⟨hb.os.trans h.u.os,hb.tape.trans h.u.tape,hb.output.trans h.u.output,Nat.le_trans h.u.size hb.size,fun k hk hn => (hb.block k (by omega)).trans (h.u.block k hk hn)⟩
  have kc' := h.kc.same (hb.mono (show c + 1 <= w.heap.size + 1 by omega));refine ⟨kB',A8.of (s := ⟨s.cs,s.ps,bks'.map Bk.pb⟩) ⟨q1,hlo,q2,q3,rfl⟩ ?_ (kc'.same (uu.toBelow kc'.lt (by omega))) (hu.setCell ⟨nB,2,none⟩ (.inr (by show _ <= nB;omega)) _) hlt bf few⟩;exact (uu.block _ (heap_lt kR') (by omega)).trans kR'
theorem own_head {w : World} {base : Nat} {e : TypeId} {k n cap : Nat} {o : Option Addr} {xs : List Value} (h : w.ownsRow base e k (.slice o n cap) n xs) (hn : 0 < n) : ∃ g,o = some ⟨g,0,none⟩ := by
  rcases h.2 with ⟨e',h0⟩ | ⟨g,cap',cur,e',_⟩
  · omega
  · simp only [Value.slice.injEq] at e'
    exact ⟨g,e'.1⟩
def zzBook : Bk := ⟨⟨#[122,122]⟩,1,.slice none 0 0,[],false,0⟩
theorem fit_zz : BkFit zzBook := ⟨(by decide),(by decide),(fun r hr => (by cases hr)),(by decide)⟩
set_option maxRecDepth 100000 in
set_option maxHeartbeats 6400000 in
theorem drawAny8_any (c : Nat) (x : Option Addr) (len cap : Nat) (w : World) (hc : Cur w c x len cap) :
    Calls Tryz.prog 52 #[.pointer (some ⟨c,0,none⟩)] w fun e w' => ∃ (v1 v2 vb : Value) (cs ps : List Int) (bks : List Bk),e = .returned (.agg #[v1,v2,vb]) /\ D8 c x len cap w w' v1 v2 vb cs ps bks := by
  have hlt := hc.lt;obtain ⟨i0,hI,hz0,hz1,hz2⟩ := info_parts Tryz.infoBook;obtain ⟨W0,hW0,kR,d0,z0⟩ := box1 w #[.slice none 0 0,.slice none 0 0,.slice none 0 0] 42;have kc : Cur W0 c x len cap := hc.below d0;have u : Upto c w W0 := Upto.ofBelow d0;have HW0 : Hid (W0 = _) := hW0;have HZ0 : Hid (W0.heap.size = w.heap.size + 1) := z0;have sR : w.heap.size < W0.heap.size := by omega
  clear hW0 hc d0 z0
  go_enter Tryz.func52,Tryz.ntmps52
  go_wp2_with fail
  rw [<- HW0.out];clear HW0;refine (draw8_any c x len cap _ kc).mono ?_;rintro e w1 ⟨v1,v2,vb,bks,s,rfl,oP,oB,heq,inv,u1,k1⟩;replace kR := (u1.block _ sR (by omega)).trans kR;replace sR := Nat.lt_of_lt_of_le sR u1.size;replace u := u.trans u1;replace oP := oP.mono (show w.heap.size + 1 <= W0.heap.size + 1 by have := HZ0.out;omega);replace oB := oB.mono (show w.heap.size + 1 <= W0.heap.size + 1 by have := HZ0.out;omega);have HW1 : Hid (w.heap.size + 1 <= w1.heap.size) := sR;clear u1 kc HZ0;obtain ⟨o1,c1,o2,c2,rfl,rfl⟩ := oP.forms;obtain ⟨ob,kb,rfl⟩ := own_slice oB.row;have bP : Below w1.heap.size w1 (w1.alloc (.cells #[.slice o1 s.cs.length c1,.slice o2 s.ps.length c2,.slice ob bks.length kb] 42)) := bw_alloc (Below.refl _ _);have kB := heap_alloc_new w1 (.cells #[.slice o1 s.cs.length c1,.slice o2 s.ps.length c2,.slice ob bks.length kb] 42)
  have h0 : L8 c x len cap (w.heap.size + 1) w1.heap.size w (w1.alloc (.cells #[.slice o1 s.cs.length c1,.slice o2 s.ps.length c2,.slice ob bks.length kb] 42)) (.slice o1 s.cs.length c1) (.slice o2 s.ps.length c2) (.slice ob bks.length kb) bks s :=
    ⟨⟨kB,HW1.out,oP.below bP,oB.below bP,heq⟩,inv,(bP.block _ sR).trans kR,k1.below bP,u.below bP,hlt,Nat.lt_succ_self _⟩
  clear bP kB kR u k1 oP oB heq inv HW1 sR
  go_wp2_with fail
  generalize w1.alloc (.cells #[.slice o1 s.cs.length c1,.slice o2 s.ps.length c2,.slice ob bks.length kb] 42) = W3 at *;generalize w1.heap.size = nB at *;refine (once_any c x len cap 10 _ (by omega) h0.kc).mono ?_;rintro e w4 ⟨y,rfl,u1,k1⟩;replace h0 := h0.step u1 k1;clear u1 k1
  go_upto_if 7 with fail
  go_cut [] (fun wx => ∃ (v1 v2 vb : Value) (cs ps : List Int) (bks : List Bk),A8 c x len cap nB w wx v1 v2 vb cs ps bks)
  case first =>
    cases y
    · go_wp2_with fail
      go_meet
      exact ⟨_,_,_,_,_,_,h0.toA⟩
    · go_wp2_with fail
      refine (below_any c x len cap 4 _ (by omega) h0.kc).mono ?_;rintro e w5 ⟨y,rfl,hy,u1,k1⟩;replace h0 := h0.step u1 k1;have hy3 : y = 0 \/ y = 1 \/ y = 2 \/ y = 3 := by have h1 := hy.2.1 (by omega);have h2 := hy.1;omega
      have hlo := h0.st.lo;have hbx := heap_lt h0.st.box;have hnb := h0.nb;clear u1 k1 hy;rcases hy3 with rfl | rfl | rfl | rfl
      · go_wp2_with fail
        refine (draw4_any c x len cap _ h0.kc).mono ?_;rintro e w6 ⟨u1,u2,cs,ps,rfl,r,hn,u6,k6⟩;have h6 := h0.step u6 k6;have hnB := hn nB (by omega);have hnR : ∀ b,b <= w.heap.size -> u1.ownBlock ≠ some b /\ u2.ownBlock ≠ some b := fun b hb => hn b (by omega)
        obtain ⟨p1,q1,p2,q2,rfl,rfl⟩ := r.forms;have g0 := at_cell h6.st.box 0;have g1 := at_cell h6.st.box 1;have f0 := at_open h6.st.box 0;have f1 := at_open h6.st.box 1;have uu : Upto nB w6 ((w6.setCell ⟨nB,0,none⟩ (.slice p1 cs.length q1)).setCell ⟨nB,1,none⟩ (.slice p2 ps.length q2)) := ((Upto.refl _ _).setCell ⟨nB,0,none⟩ (.inl rfl) _).setCell ⟨nB,1,none⟩ (.inl rfl) _;have hB0 := set_at h6.st.box 0 (.slice p1 cs.length q1)
        have hA : A8 c x len cap nB w ((w6.setCell ⟨nB,0,none⟩ (.slice p1 cs.length q1)).setCell ⟨nB,1,none⟩ (.slice p2 ps.length q2)) (.slice p1 cs.length q1) (.slice p2 ps.length q2) (.slice ob bks.length kb) cs ps bks := by
          refine ⟨⟨(r.upto uu (Nat.le_refl _) hnB.1 hnB.2).mono uu.size,hnR,⟨own_box (own_box h6.st.books.row h6.st.box (by decide) 0 _) hB0 (by decide) 1 _,fun y hy => own_box (own_box (h6.st.books.maps y hy) h6.st.box (by decide) 0 _) hB0 (by decide) 1 _⟩,h6.kc.same (uu.toBelow h6.kc.lt (by omega)),(h6.u.setCell ⟨nB,0,none⟩ (.inr (by show _ <= nB;omega)) _).setCell ⟨nB,1,none⟩ (.inr (by show _ <= nB;omega)) _,h6.lt,h6.fits,Nat.le_succ_of_le h6.few⟩,set_at hB0 1 _,?_⟩;exact (uu.block _ (heap_lt h6.kR) (by omega)).trans h6.kR
        have HA : Hid _ := hA;clear hA uu hB0 r h6 u6 k6 h0 hn hnR hnB
        go_wp2_with fail
        go_meet
        exact ⟨_,_,_,_,_,_,HA.out⟩
      · have hd := h0.below (W' := w5.drew) ((Below.refl _ _).drew)
        have cc := at_cell h0.st.box 2;have cd := at_cell hd.st.box 2;have hfew := h0.few;have HMX : Hid (bks.length + 1 <= maxLen) := by unfold maxLen;rw [Hid];omega
        have HBY : Hid ((bks.length + 1) * 64 <= 140737488355328) := by rw [Hid];omega
        have HF : Hid _ := h0.fits
        go_wp2_with fail
        go_region_law (first
          | (go_simp;go_at_call 92;refine (draw6_any c x len cap _ hd.kc).mono ?_;rintro e w6 ⟨yb,rfl,sb⟩;have h6 := hd.step sb.u sb.kc;have c6 := at_cell h6.st.box 2;have hz6 := h6.u.size;obtain ⟨om,cm,hm⟩ := sb.form;obtain ⟨nm,sz,m,rs,fx,ep⟩ := yb;simp only at hm;subst hm;have h6a := h6.below (W' := w6.alloc (.cells #[.string nm,.int .i64 sz,.slice om rs.length cm,.bool fx,.int .i64 ep] 87)) (bw_alloc (Below.refl _ _));have c6a := at_cell h6a.st.box 2;dsimp only)
          | (refine step_append rfl (.tmp 18) (.tmp 21) 40 rfl (w.heap.size + 1) 87 i0 (.agg #[.string ByteArray.empty,.int .i64 0,.slice none 0 0,.bool false,.int .i64 0]) 5 64 Tryz.underlying40 hI hz0 hz1 hz2 rfl (by decide) (.slice ob bks.length kb) bks.length (bks.flatMap bookC) (by simp [Act.eval]) (h6.st.books.row.alloc _) ⟨w6.heap.size,0,none⟩ 1 1 (bookC ⟨nm,sz,.slice om rs.length cm,rs,fx,ep⟩) (by simp [Act.eval]) rfl (new_five _ ⟨nm,sz,.slice om rs.length cm,rs,fx,ep⟩ _) (one_book _ ⟨_,_,_,rfl⟩) HMX.out HBY.out (by simp;omega) ?_;intro v7 w7 own7 grow7 nil7;have own8 : w7.ownsRow (w.heap.size + 1) 87 5 v7 (bks ++ [(⟨nm,sz,.slice om rs.length cm,rs,fx,ep⟩ : Bk)]).length ((bks ++ [(⟨nm,sz,.slice om rs.length cm,rs,fx,ep⟩ : Bk)]).flatMap bookC) := (by simpa using own7);obtain ⟨o7,c7,rfl⟩ := own_slice own8;obtain ⟨kB7,hA⟩ := h6a.rebooked (h6.st.books.row.alloc _) grow7 own8 (fun y hy => (by
              rcases List.mem_append.1 hy with q | q
              · exact (h6.st.books.maps y q).alloc _
              · simp only [List.mem_singleton] at q
                subst q
                exact owns_mono (sb.own.alloc _) (by show _ <= w5.heap.size;omega))) (fun y hy => (by
              rcases List.mem_append.1 hy with q | q
              · exact HF.out y q
              · simp only [List.mem_singleton] at q
                subst q
                exact ⟨sb.nm,sb.ep,sb.fit,sb.few⟩)) (by simp;omega);have q2 := at_cell kB7 2;have f2 := at_open kB7 2))
        all_goals
          rw [show (bks ++ [(⟨nm,sz,.slice om rs.length cm,rs,fx,ep⟩ : Bk)]).length = bks.length + 1 by simp] at hA;have HA : Hid _ := hA;clear hA own8 own7 grow7 nil7 kB7 q2 f2 h6 h6a sb h0 hd
          go_wp2_with fail
          go_meet
          first
          | exact ⟨_,_,_,_,_,_,HA.out⟩
          | exact ⟨_,_,_,_,_,_,⟨HA.out.d.below ((Below.refl _ _).drew),HA.out.kB,HA.out.kR⟩⟩
      · have hn1 : 0 < s.cs.length := by have := h0.inv.n1;omega
        obtain ⟨g1,hg1⟩ := own_head h0.st.pool.c hn1;subst hg1;have cc := at_cell h0.st.box 0;have cd : w5.drew.cell? ⟨nB,0,none⟩ = some (.slice (some ⟨g1,0,none⟩) s.cs.length c1) := at_cell h0.st.box 0;obtain ⟨a0,f0⟩ := h0.st.pool.at1 0 hn1;have ad : w5.drew.cell? ⟨g1,0,none⟩ = some (.int .i64 (s.cs.getD 0 0)) := a0;have fd : w5.drew.frozen? ⟨g1,0,none⟩ = w5.frozen? ⟨g1,0,none⟩ := rfl;have hni : (0 : Int) < (s.cs.length : Int) := by omega
        have HA : Hid (∀ z : Int,A8 c x len cap nB w (w5.setCell ⟨g1,0,none⟩ (.int .i64 z)) (.slice (some ⟨g1,0,none⟩) s.cs.length c1) (.slice o2 s.ps.length c2) (.slice ob bks.length kb) (s.cs.set 0 z) s.ps bks) := fun z => by
          have hgl := h0.st.pool.c.lt g1 rfl;have on : Only (fun i => (Value.slice (some ⟨g1,0,none⟩) s.cs.length c1).ownBlock = some i \/ (Value.slice o2 s.ps.length c2).ownBlock = some i) w5 (w5.setCell ⟨g1,0,none⟩ (.int .i64 z)) := (Only.refl _ _).setCell ⟨g1,0,none⟩ (.inl rfl) _;have st' := h0.st.pooled (h0.st.pool.put1 0 z) on;have uu : Upto g1 w5 (w5.setCell ⟨g1,0,none⟩ (.int .i64 z)) := (Upto.refl g1 w5).setCell ⟨g1,0,none⟩ (.inl rfl) _;exact A8.of (s := ⟨s.cs.set 0 z,s.ps,s.bs⟩) st' ((uu.block _ (heap_lt h0.kR) (by omega)).trans h0.kR) (h0.kc.same (uu.toBelow h0.kc.lt (by omega))) (h0.u.setCell ⟨g1,0,none⟩ (.inr (by show _ <= g1;omega)) _) h0.lt h0.fits (Nat.le_succ_of_le h0.few)
        clear h0
        go_wp2_with fail
        go_region_law (fail)
        all_goals
          clear cc cd a0 f0 ad fd
          go_wp2_with fail
          go_meet
          first
          | exact ⟨_,_,_,_,_,_,HA.out _⟩
          | exact ⟨_,_,_,_,_,_,⟨(HA.out _).d.below ((Below.refl _ _).drew),(HA.out _).kB,(HA.out _).kR⟩⟩
      · have h6 := h0.below (W' := w5.alloc (.cells #[.string ⟨#[122,122]⟩,.int .i64 1,.slice none 0 0,.bool false,.int .i64 0] 87)) (bw_alloc (Below.refl _ _))
        have own1 : (w5.alloc (.cells #[.string ⟨#[122,122]⟩,.int .i64 1,.slice none 0 0,.bool false,.int .i64 0] 87)).ownsRow (w.heap.size + 1) 87 5 (.slice (some ⟨w5.heap.size,0,none⟩) 1 1) 1 (bookC zzBook) := ⟨rfl,.inr ⟨_,1,_,rfl,(by omega),heap_alloc_new w5 _,Nat.le_refl _,(by unfold maxLen;omega),rfl,rfl⟩⟩
        have hfew := h0.few;have c6 := at_cell h6.st.box 2;have HLEN : Hid ((bks.flatMap bookC).length = bks.length * 5) := flat_length bookC_len bks;have HSRC : Hid _ := flat_src bookC_len (by decide) (ReadsR.of_own bookC_len h6.st.books.row);have HONE : Hid _ := books_one bks h6.st.forms;have HMX : Hid (1 + bks.length <= maxLen) := by unfold maxLen;rw [Hid];omega
        have HBY : Hid ((1 + bks.length) * 64 <= 140737488355328) := by rw [Hid];omega
        have HSZ : Hid (w.heap.size + 1 <= (w5.alloc (.cells #[.string ⟨#[122,122]⟩,.int .i64 1,.slice none 0 0,.bool false,.int .i64 0] 87)).heap.size) := by rw [Hid];simp;omega
        have HF : Hid _ := h0.fits;have H6 : Hid _ := h6;have HO1 : Hid _ := own1;clear h0 h6 own1
        go_wp2_with (at_builtin;refine wpList_append_reads rfl _ _ 40 rfl (w.heap.size + 1) 87 i0 (.agg #[.string ByteArray.empty,.int .i64 0,.slice none 0 0,.bool false,.int .i64 0]) 5 64 Tryz.underlying40 hI hz0 hz1 hz2 rfl (by decide) (.slice (some ⟨w5.heap.size,0,none⟩) 1 1) 1 (bookC zzBook) rfl HO1.out ob bks.length kb (bks.flatMap bookC) rfl HLEN.out HSRC.out HONE.out HMX.out HBY.out HSZ.out ?_)
        intro v7 w7 own7 grow7 nil7
        have own8 : w7.ownsRow (w.heap.size + 1) 87 5 v7 (zzBook :: bks).length ((zzBook :: bks).flatMap bookC) := by
          have e : (zzBook :: bks).length = 1 + bks.length := by rw [List.length_cons];omega
          rw [e]
          simpa using own7
        obtain ⟨o7,c7,rfl⟩ := own_slice own8
        obtain ⟨kB7,hA⟩ := H6.out.rebooked HO1.out grow7 own8 (fun y hy => by
          rcases List.mem_cons.1 hy with q | q
          · subst q
            exact World.ownsRow_nil _ _ _ _
          · exact H6.out.st.books.maps y q) (fun y hy => by
          rcases List.mem_cons.1 hy with q | q
          · subst q
            exact fit_zz
          · exact HF.out y q) (by simp;omega)
        have q2 := at_cell kB7 2;have f2 := at_open kB7 2;rw [show (zzBook :: bks).length = bks.length + 1 by simp] at hA;have HA : Hid _ := hA;clear hA own8 own7 grow7 nil7 kB7 H6 HO1 c6
        go_wp2_with fail
        go_meet
        exact ⟨_,_,_,_,_,_,HA.out⟩
  case rest =>
    clear h0;obtain ⟨v1,v2,vb,cs,ps,bks,h⟩ := hcut;have hlt2 := h.d.lt;obtain ⟨p1,q1,p2,q2,rfl,rfl⟩ := h.d.p.forms;obtain ⟨pb,qb,rfl⟩ := own_slice h.d.b.row;obtain ⟨g0,g1,g2⟩ := c3 h.kB;obtain ⟨r0,r1,r2⟩ := c3 h.kR;obtain ⟨f0,f1,f2⟩ := o3 h.kR;have uu : Upto w.heap.size wc (((wc.setCell ⟨w.heap.size,0,none⟩ (.slice p1 cs.length q1)).setCell ⟨w.heap.size,1,none⟩ (.slice p2 ps.length q2)).setCell ⟨w.heap.size,2,none⟩ (.slice pb bks.length qb)) := (((Upto.refl _ _).setCell ⟨w.heap.size,0,none⟩ (.inl rfl) _).setCell ⟨w.heap.size,1,none⟩ (.inl rfl) _).setCell ⟨w.heap.size,2,none⟩ (.inl rfl) _;have hp0 := h.d.p0 w.heap.size (Nat.le_refl _)
    have hD : D8 c x len cap w (((wc.setCell ⟨w.heap.size,0,none⟩ (.slice p1 cs.length q1)).setCell ⟨w.heap.size,1,none⟩ (.slice p2 ps.length q2)).setCell ⟨w.heap.size,2,none⟩ (.slice pb bks.length qb)) (.slice p1 cs.length q1) (.slice p2 ps.length q2) (.slice pb bks.length qb) cs ps bks :=
      ⟨(h.d.p.upto uu (Nat.le_refl _) hp0.1 hp0.2).mono uu.size,h.d.p0,⟨ownsRow_upto h.d.b.row uu (Nat.lt_succ_self _),fun y hy => ownsRow_upto (h.d.b.maps y hy) uu (Nat.lt_succ_self _)⟩,h.d.kc.same (uu.toBelow h.d.kc.lt (by omega)),((h.d.u.setCell ⟨w.heap.size,0,none⟩ (.inr (Nat.le_refl _)) _).setCell ⟨w.heap.size,1,none⟩ (.inr (Nat.le_refl _)) _).setCell ⟨w.heap.size,2,none⟩ (.inr (Nat.le_refl _)) _,h.d.lt,h.d.bf,h.d.few⟩
    have hR := set_at (set_at (set_at h.kR 0 (.slice p1 cs.length q1)) 1 (.slice p2 ps.length q2)) 2 (.slice pb bks.length qb);have HS : Hid _ := And.intro hR hD;clear hR hD uu h
    go_wp2_with fail
    exact bodyPost_ret (v := .agg #[.slice p1 cs.length q1,.slice p2 ps.length q2,.slice pb bks.length qb]) (by simp [results,Tryz.results52,go_sem,at_cell HS.out.1]) rfl ⟨_,_,_,cs,ps,bks,rfl,HS.out.2⟩
end Go.Proofs.YtcefcglonooelaaGreatDoor
