import Derived.Test.YtcefcglonooelaaGreatDoorA14
import Derived.Test.YtcefcglonooelaaGreatDoorA15
import Derived.Test.YtcefcglonooelaaGreatDoorA16
namespace Go.Proofs.YtcefcglonooelaaGreatDoor
open Go.RowKit
set_option linter.unusedVariables false
set_option maxRecDepth 100000
def DoPost (base b : Nat) (v1 v2 : Value) (s : Sf) (o : Oq) (w : World) (e : Ending) (w' : World) : Prop :=
  ∃ (vb' : Value) (bks' : List Bk),e = .returned (.agg #[.int .i64 (doOp s o).2.1,.int .i64 (doOp s o).2.2]) /\ ShSt base b w' v1 v2 vb' bks' (doOp s o).1 /\ Below base w w'
theorem DoPost.drew {base b : Nat} {v1 v2 : Value} {s : Sf} {o : Oq} {w w' : World} {e : Ending} (h : DoPost base b v1 v2 s o w e w') : DoPost base b v1 v2 s o w e w'.drew := by
  obtain ⟨vb,bks,h1,h2,h3⟩ := h;exact ⟨vb,bks,h1,h2.below ((Below.refl _ _).drew),h3.drew⟩
theorem do_end {base b n : Nat} {w w' : World} {v1 v2 vb x0 x1 : Value} {bks : List Bk} {s s' : Sf} {o : Oq} {c v : Int} (hd : doOp s o = (s',(c,v))) (hbase : base <= n) (k1 : w'.heap[n]? = some (.cells #[x0,x1] 30 (0,0))) (st : ShSt base b w' v1 v2 vb bks s') (d : Below base w w') :
    ((w'.setCell ⟨n,0,none⟩ (.int .i64 c)).setCell ⟨n,1,none⟩ (.int .i64 v)).heap[n]? = some (.cells #[.int .i64 c,.int .i64 v] 30 (0,0)) /\
    DoPost base b v1 v2 s o w (.returned (.agg #[.int .i64 c,.int .i64 v])) ((w'.setCell ⟨n,0,none⟩ (.int .i64 c)).setCell ⟨n,1,none⟩ (.int .i64 v)) := by
  have k2 := set_at k1 0 (.int .i64 c);have k3 := set_at k2 1 (.int .i64 v)
  have put : ∀ (W : World) (cs : Array Value) (i : Nat) (u : Value),W.heap[n]? = some (.cells cs 30 (0,0)) -> ShSt base b W v1 v2 vb bks s' -> ShSt base b (W.setCell ⟨n,i,none⟩ u) v1 v2 vb bks s' := fun W cs i u hk h =>
    ⟨(Below.heap_setCell W ⟨n,i,none⟩ u b (fun e => by have hbx := h.box;rw [show b = n from e,hk] at hbx;simp at hbx)).trans h.box,h.lo,⟨own_box h.pool.c hk (by decide) i u,own_box h.pool.p hk (by decide) i u,h.pool.apart⟩,⟨own_box h.books.row hk (by decide) i u,fun x hx => own_box (h.books.maps x hx) hk (by decide) i u⟩,h.eq⟩
  refine ⟨k3,vb,bks,by rw [hd],by rw [hd];exact put _ _ 1 _ k2 (put _ _ 0 _ k1 st),?_⟩;exact (d.setCell (p := ⟨n,0,none⟩) hbase _).setCell (p := ⟨n,1,none⟩) hbase _
set_option maxHeartbeats 6400000 in
theorem l8Do_bad (base b : Nat) (v1 v2 vb : Value) (bks : List Bk) (s : Sf) (k : Int) (nm ot : ByteArray) (at_ va ep : Int) (w : World) (hn : nm.size <= maxLen) (ho : ot.size <= maxLen) (inv : ShInv s) (st : ShSt base b w v1 v2 vb bks s) (hok : opOk ⟨k,nm,ot,at_,va,ep⟩ = false) :
    Calls Tryz.prog 61 #[.pointer (some ⟨b,0,none⟩),.agg #[.int .i64 k,.string nm,.string ot,.int .i64 at_,.int .i64 va,.int .i64 ep]] w (DoPost base b v1 v2 s ⟨k,nm,ot,at_,va,ep⟩ w) := by
  obtain ⟨ob,cap,hvf⟩ := own_slice st.books.row;subst hvf;have hbase : base <= w.heap.size := Nat.le_trans st.lo (Nat.le_of_lt (heap_lt st.box));have hfew : bks.length <= 6 := by rw [st.len];exact inv.few
  obtain ⟨W0,hW0,k0,k1,d0,z0⟩ := box2 w #[.int .i64 k,.string nm,.string ot,.int .i64 at_,.int .i64 va,.int .i64 ep] #[.int .i64 0,.int .i64 0] 26 30;have HW0 : Hid (W0 = _) := hW0;have st0 := st.below d0;clear hW0 z0
  go_enter Tryz.func61,Tryz.ntmps61
  go_wp2_with fail
  rw [<- HW0.out];clear HW0;refine (specOpOk_any k nm ot at_ va ep _ hn ho).mono ?_;rintro e w1 ⟨rfl,b1⟩;rw [hok];replace k0 := (b1.block _ (heap_lt k0)).trans k0;replace k1 := (b1.block _ (heap_lt k1)).trans k1;replace st0 := st0.below b1;replace d0 := bw_call d0 b1;clear b1;have HS : Hid _ := do_end (show doOp s ⟨k,nm,ot,at_,va,ep⟩ = (s,(1,0)) by rw [doOp,if_pos hok]) (Nat.le_succ_of_le hbase) k1 st0 (d0.mono hbase);have q0 := at_cell k1 0;have q1 := at_cell k1 1;obtain ⟨f0,f1⟩ := o2 k1;clear k0 k1 st0 d0 st
  go_wp2_with fail
  exact bodyPost_ret (v := .agg #[.int .i64 1,.int .i64 0]) (by simp [results,Tryz.results61,go_sem,at_cell HS.out.1]) rfl HS.out.2
set_option maxHeartbeats 6400000 in
theorem l8Do_refd (base b : Nat) (v1 v2 vb : Value) (bks : List Bk) (s : Sf) (k : Int) (nm ot : ByteArray) (at_ va ep : Int) (w : World) (hn : nm.size <= maxLen) (ho : ot.size <= maxLen) (inv : ShInv s) (st : ShSt base b w v1 v2 vb bks s) (hok : opOk ⟨k,nm,ot,at_,va,ep⟩ = true) (href : refused s.bs ⟨k,nm,ot,at_,va,ep⟩ ≠ 0) :
    Calls Tryz.prog 61 #[.pointer (some ⟨b,0,none⟩),.agg #[.int .i64 k,.string nm,.string ot,.int .i64 at_,.int .i64 va,.int .i64 ep]] w (DoPost base b v1 v2 s ⟨k,nm,ot,at_,va,ep⟩ w) := by
  have hk9 := (opOk_bd _ hok).1;simp only at hk9;have HD : Hid (doOp s ⟨k,nm,ot,at_,va,ep⟩ = (s,(refused s.bs ⟨k,nm,ot,at_,va,ep⟩,0))) := by rw [Hid,doOp,if_neg (by rw [hok];decide),if_pos href]
  obtain ⟨rc,hrc⟩ : ∃ rc,refused s.bs ⟨k,nm,ot,at_,va,ep⟩ = rc := ⟨_,rfl⟩
  rw [hrc] at HD href;obtain ⟨ob,cap,hvf⟩ := own_slice st.books.row;subst hvf;have hbase : base <= w.heap.size := Nat.le_trans st.lo (Nat.le_of_lt (heap_lt st.box));have hfew : bks.length <= 6 := by rw [st.len];exact inv.few
  obtain ⟨W0,hW0,k0,k1,d0,z0⟩ := box2 w #[.int .i64 k,.string nm,.string ot,.int .i64 at_,.int .i64 va,.int .i64 ep] #[.int .i64 0,.int .i64 0] 26 30;have HW0 : Hid (W0 = _) := hW0;have st0 := st.below d0;clear hW0 z0
  go_enter Tryz.func61,Tryz.ntmps61
  go_wp2_with fail
  rw [<- HW0.out];clear HW0;refine (specOpOk_any k nm ot at_ va ep _ hn ho).mono ?_;rintro e w1 ⟨rfl,b1⟩;rw [hok];replace k0 := (b1.block _ (heap_lt k0)).trans k0;replace k1 := (b1.block _ (heap_lt k1)).trans k1;replace st0 := st0.below b1;replace d0 := bw_call d0 b1;clear b1;have hne := BelowOf.any w1;have rb : ReadsR 5 bookC w1.heap.size w1 (.slice ob bks.length cap) bks := ReadsR.of_own bookC_len st0.books.row;have hfm := st0.forms
  have H1 : ∀ q : BelowOf w1,Calls Tryz.prog 83 #[.slice ob bks.length cap,.agg #[.int .i64 k,.string nm,.string ot,.int .i64 at_,.int .i64 va,.int .i64 ep]] q.w' fun e w' => e = .returned (.int .i64 rc) /\ Below q.w'.heap.size q.w' w' := fun q => by
    have h := l8Refused_any (.slice ob bks.length cap) bks k nm ot at_ va ep q.w' hk9 (rb.of (Nat.le_refl _) q) hfm;rw [st.eq,hrc] at h;exact h
  have c0 := BelowOf.cell (v := .int .i64 k) (at_cell k0 0) (heap_lt k0);have c1 := BelowOf.cell (v := .string nm) (at_cell k0 1) (heap_lt k0);have c2 := BelowOf.cell (v := .string ot) (at_cell k0 2) (heap_lt k0);have c3 := BelowOf.cell (v := .int .i64 at_) (at_cell k0 3) (heap_lt k0);have c4 := BelowOf.cell (v := .int .i64 va) (at_cell k0 4) (heap_lt k0);have c5 := BelowOf.cell (v := .int .i64 ep) (at_cell k0 5) (heap_lt k0);have cB := BelowOf.cell (v := .slice ob bks.length cap) (at_cell st0.box 2) (heap_lt st0.box)
  go_wp2_with fail
  refine wp_region_of (by kernel_rfl) (by kernel_rfl) ?_
  repeat (go_big_quiet_step ((first | (go_at_call 83;with_reducible exact calls_of (H1 _)) | rfl)))
  refine wpQuiet_nil ?_;intro w2 hw2;obtain ⟨⟨wx,cx⟩,hwx⟩ := hw2;have b2 : Below w1.heap.size w1 w2 := by rw [hwx];exact cx
  clear hwx cx wx hne c0 c1 c2 c3 c4 c5 cB H1 rb;replace k0 := (b2.block _ (heap_lt k0)).trans k0;replace k1 := (b2.block _ (heap_lt k1)).trans k1;replace st0 := st0.below b2;replace d0 := bw_call d0 b2;clear b2;have HS : Hid _ := do_end HD.out (Nat.le_succ_of_le hbase) k1 st0 (d0.mono hbase);have hcb : (rc != 0) = true := by rw [bne_iff_ne];exact href
  have q0 := at_cell k1 0;have q1 := at_cell k1 1;obtain ⟨f0,f1⟩ := o2 k1;clear k0 k1 st0 d0 st HD hrc
  go_wp2_with fail
  exact bodyPost_ret (v := .agg #[.int .i64 rc,.int .i64 0]) (by simp [results,Tryz.results61,go_sem,at_cell HS.out.1]) rfl HS.out.2
theorem l1Min_at (a b : Int) (w : World) :
    Calls Tryz.prog 103 #[.int .i64 a,.int .i64 b] w fun e w' => e = .returned (.int .i64 (min a b)) /\ w' = w := by
  by_cases h : a < b
  · have hm : min a b = a := by omega
    rw [hm]
    go_enter Tryz.func103,Tryz.ntmps103
    go_wp2
    go_ret;exact ⟨rfl,rfl⟩
  · have hm : min a b = b := by omega
    rw [hm]
    go_enter Tryz.func103,Tryz.ntmps103
    go_wp2
    go_ret;exact ⟨rfl,rfl⟩
theorem at_lt {s : Sf} {o : Oq} (inv : ShInv s) (hok : opOk o = true) (href : refused s.bs o = 0) (hk : o.k ≠ 1) : 0 <= o.at_ /\ o.at_ < 16 := by
  have h0 := (opOk_bd o hok).2.2.2.1.1;refine ⟨h0,?_⟩;cases ha : kAt o.k
  · simp only [opOk,Bool.and_eq_true,ha,Bool.false_or,decide_eq_true_eq] at hok
    omega
  · obtain ⟨a1,-,-,a4,-⟩ := refused_parts href
    obtain ⟨i,hi,hf,-⟩ := find_in s.bs o.nm (by have := a1 hk;omega);have h1 := a4 hk ha;rw [hf,bookAt_of s.bs i hi] at h1;have h2 := (book_parts (inv.oks _ (List.getElem_mem hi))).2.1
    omega
theorem do_kind {s : Sf} {o : Oq} {i : Nat} {B : Pb} (hok : opOk o = true) (href : refused s.bs o = 0) (hk : o.k ≠ 1 /\ o.k ≠ 6 /\ kOther o.k = false) (hfp : findP s.bs o.nm = i) (hbk : bookAt s.bs (findP s.bs o.nm) = B) (ha : o.at_ < 16) : doOp s o = doKind s o i B ((pages B.rs).getD o.at_.toNat 0) := by
  rw [doOp,if_neg (by rw [hok];decide),if_neg (by rw [href];decide),if_neg hk.1,if_neg hk.2.1,if_neg (by rw [hk.2.2];decide),hbk,hfp,if_pos ha,Int.toNat_natCast]
theorem kind_9 (s : Sf) (nm ot : ByteArray) (at_ va ep : Int) (i : Nat) (B : Pb) (page : Int) : doKind s ⟨9,nm,ot,at_,va,ep⟩ i B page = (s,(0,if page < 0 then 0 else s.ps.getD page.toNat 0)) := rfl
theorem kind_8 (s : Sf) (nm ot : ByteArray) (at_ va ep : Int) (i : Nat) (B : Pb) (page : Int) : doKind s ⟨8,nm,ot,at_,va,ep⟩ i B page = (⟨s.cs,s.ps,s.bs.set i ⟨B.nm,B.sz,B.rs,B.fx,B.ep + 1⟩⟩,(0,B.ep + 1)) := rfl
theorem kind_7 (s : Sf) (nm ot : ByteArray) (at_ va ep : Int) (i : Nat) (B : Pb) (page : Int) : doKind s ⟨7,nm,ot,at_,va,ep⟩ i B page = (⟨(cutBook s i va.toNat).cs,(cutBook s i va.toNat).ps,(cutBook s i va.toNat).bs.set i { bookAt (cutBook s i va.toNat).bs i with sz := va }⟩,(0,0)) := rfl
theorem kind_3 (s : Sf) (nm ot : ByteArray) (at_ va ep : Int) (i : Nat) (B : Pb) (page : Int) : doKind s ⟨3,nm,ot,at_,va,ep⟩ i B page = (if 0 <= page then (⟨(dropOne (s.cs,s.ps) page).1,(dropOne (s.cs,s.ps) page).2,s.bs.set i ⟨B.nm,B.sz,mapOf ((pages B.rs).set at_.toNat (-1)),B.fx,B.ep⟩⟩,(0,0)) else (s,(0,0))) := rfl
theorem kind_2 (s : Sf) (nm ot : ByteArray) (at_ va ep : Int) (i : Nat) (B : Pb) (page : Int) : doKind s ⟨2,nm,ot,at_,va,ep⟩ i B page = doWrite s i B ⟨2,nm,ot,at_,va,ep⟩ page := rfl
theorem found {base b : Nat} {w : World} {v1 v2 vb : Value} {bks : List Bk} {s : Sf} {o : Oq} (st : ShSt base b w v1 v2 vb bks s) (href : refused s.bs o = 0) (hk : o.k ≠ 1) : ∃ (i : Nat) (hi : i < bks.length) (hib : i < s.bs.length),findP s.bs o.nm = i /\ findB bks o.nm = i /\ s.bs[i] = bks[i].pb /\ bookAt s.bs (findP s.bs o.nm) = s.bs[i] := by
  obtain ⟨i,hib,hf,-⟩ := find_in s.bs o.nm (by have := (refused_parts href).1 hk;omega);have hi : i < bks.length := by rw [st.len];exact hib
  refine ⟨i,hi,hib,hf,?_,?_,?_⟩
  · rw [<- findP_map,st.eq];exact hf
  · have h := st.eq
    simp [<- h]
  · rw [hf,bookAt_of s.bs i hib]
theorem row_block1 {base : Nat} {w : World} {ob : Option Addr} {n cap k : Nat} {xs : List Value} (h : w.ownsRow base 2 1 (.slice ob n cap) k xs) (hi : 0 < k) : ∃ g,ob = some ⟨g,0,none⟩ := by
  rcases h.2 with ⟨_,h0⟩ | ⟨g,cap',cur,e,_⟩
  · omega
  · simp only [Value.slice.injEq] at e
    exact ⟨g,e.1⟩
theorem ShSt.beside {base b gp j B n cap k : Nat} {w : World} {v1 v2 vb : Value} {bks : List Bk} {s : Sf} {xs : List Value} (h : ShSt base b w v1 v2 vb bks s) (hrow : w.ownsRow B 2 1 (.slice (some ⟨gp,0,none⟩) n cap) k xs) (hlt : ∀ q,v1.ownBlock = some q \/ v2.ownBlock = some q -> q < B) (u : Value) : ShSt base b (w.setCell ⟨gp,j,none⟩ u) v1 v2 vb bks s := by
  have ub : Upto gp w (w.setCell ⟨gp,j,none⟩ u) := (Upto.refl _ _).setCell ⟨gp,j,none⟩ (.inl rfl) _;have hB := (hrow.lt gp rfl).1
  have ap : ∀ (e : TypeId) (kk n : Nat) (v : Value) (xs : List Value),w.ownsRow base e kk v n xs -> v.ownBlock ≠ some gp -> (w.setCell ⟨gp,j,none⟩ u).ownsRow base e kk v n xs := fun e kk n v xs hr hne =>
    own_rng_not hr (fun q hq hqv => ub.block q hq (fun hx => hne (by rw [<- hx];exact hqv)))
  refine ⟨(ub.block b (heap_lt h.box) (fun e => ?_)).trans h.box,h.lo,⟨ap _ _ _ _ _ h.pool.c (fun e => ?_),ap _ _ _ _ _ h.pool.p (fun e => ?_),h.pool.apart⟩,⟨ap _ _ _ _ _ h.books.row (rows_apart h.books.row hrow (by decide) gp rfl),fun x hx => ap _ _ _ _ _ (h.books.maps x hx) (rows_apart (h.books.maps x hx) hrow (by decide) gp rfl)⟩,h.eq⟩
  · exact own_not_box hrow h.box (by decide) (by rw [e];rfl)
  · have := hlt gp (.inl e);omega
  · have := hlt gp (.inr e);omega
theorem row_block {base : Nat} {w : World} {ob : Option Addr} {n cap : Nat} {bks : List Bk} (h : w.ownsRow base 87 5 (.slice ob n cap) bks.length (bks.flatMap bookC)) (hi : 0 < bks.length) : ∃ g,ob = some ⟨g,0,none⟩ := by
  rcases h.2 with ⟨_,h0⟩ | ⟨g,cap',cur,e,_⟩
  · omega
  · simp only [Value.slice.injEq] at e
    exact ⟨g,e.1⟩
end Go.Proofs.YtcefcglonooelaaGreatDoor
