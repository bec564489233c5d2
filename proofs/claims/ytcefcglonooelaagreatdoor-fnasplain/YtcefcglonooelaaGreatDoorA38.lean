import Derived.Test.YtcefcglonooelaaGreatDoorA10
import Derived.Test.YtcefcglonooelaaGreatDoorA11
import Derived.Test.YtcefcglonooelaaGreatDoorA25
import Derived.Test.YtcefcglonooelaaGreatDoorA36
import Derived.Test.YtcefcglonooelaaGreatDoorA37
namespace Go.Proofs.YtcefcglonooelaaGreatDoor
open Go.RowKit
set_option linter.unusedVariables false
def zeros24 : Array Value := #[.int .i64 0,.int .i64 0,.int .i64 0,.int .i64 0,.int .i64 0,.int .i64 0,.int .i64 0,.int .i64 0,.int .i64 0,.int .i64 0,.int .i64 0,.int .i64 0,.int .i64 0,.int .i64 0,.int .i64 0,.int .i64 0,.int .i64 0,.int .i64 0,.int .i64 0,.int .i64 0,.int .i64 0,.int .i64 0,.int .i64 0,.int .i64 0]
theorem info24 : (Tryz.prog.info? 176).map (·.size) = some 24 := by kernel_rfl
theorem index24 (c : Array Value) (k : Nat) (y : Int) (hk : k < 24) (hck : c[k]? = some (.int .i64 y)) (w : World) : (Instr.index 176 (.agg c) (.int .i64 (k : Int))).run Tryz.prog w = .ok (.int .i64 y) w := by
  obtain ⟨hlt,hv⟩ := Array.getElem?_eq_some_iff.1 hck;simp [Instr.index,run_underlying Tryz.underlying176,hv,go_sem,hk,hlt]
theorem own_block {w : World} {g base n : Nat} {e : TypeId} {cur : Array Value} {xs : List Value} (h : w.heap[g]? = some (.cells cur e (0,0))) (hb : base <= g) (hm : n <= maxLen) (hs : cur.size = n) (hx : cur.toList = xs) : w.ownsRow base e 1 (.slice (some ⟨g,0,none⟩) n n) n xs := by
  refine ⟨?_,.inr ⟨g,n,cur,rfl,hb,h,Nat.le_refl _,hm,by rw [hs,Nat.mul_one],?_⟩⟩
  · rw [<- hx,Array.length_toList,hs,Nat.mul_one]
  · rw [<- hx,List.take_of_length_le]
    rw [Array.length_toList,hs,Nat.mul_one];exact Nat.le_refl _
theorem arr24_inc {w : World} {base g : Nat} {f : Nat -> Int} (h : w.ownsRow base 176 1 (.slice (some ⟨g,0,none⟩) 24 24) 24 ((row24 f).map (Value.int .i64))) (m : Nat) (hm : m < 24) :
    w.cell? ⟨g,m,none⟩ = some (.int .i64 (f m)) /\ w.frozen? ⟨g,m,none⟩ = false /\ (w.setCell ⟨g,m,none⟩ (.int .i64 (f m + 1))).ownsRow base 176 1 (.slice (some ⟨g,0,none⟩) 24 24) 24 ((row24 (fun k => if m = k then f m + 1 else f k)).map (Value.int .i64)) := by
  refine ⟨?_,h.frozenAt m,?_⟩
  · rw [h.cellAt m (by omega),getD_some _ m (by rw [row24_length];exact hm),row24_get f m hm]
  · have := (h.stored m (.int .i64 (f m + 1))).1
    rwa [<- List.map_set,row24_set f m hm] at this
set_option maxRecDepth 100000 in
set_option maxHeartbeats 6400000 in
theorem placesByPage_any (vb : Value) (bks : List Bk) (w : World) (hf : ∀ b ∈ bks,FitRuns b.rs) (hr : rowB (bks.map Bk.pb) = true) (rb : ReadsB w.heap.size w vb bks) :
    Calls Tryz.prog 143 #[vb] w fun e w' => ∃ c : Array Value,e = .returned (.agg c) /\ c.toList = (row24 (fun k => cntAll (bks.map Bk.pb) (k : Int))).map (Value.int .i64) /\ Below w.heap.size w w' := by
  have HF : Hid _ := hf;obtain ⟨ob,cpb,f3,mb,cb,-⟩ := rb.row;subst f3;unfold maxLen at mb;have CB : Hid _ := five_cells cb;have RM : Hid _ := rb.maps;clear hf rb cb
  obtain ⟨bs,hbs⟩ : ∃ bs,bks.map Bk.pb = bs := ⟨_,rfl⟩
  have hbl : bs.length = bks.length := by rw [<- hbs,List.length_map]
  have HAT : Hid (∀ (i : Nat) (h1 : i < bks.length) (h2 : i < bs.length),bs[i] = bks[i].pb) := fun i h1 h2 => by subst hbs;simp
  rw [hbs] at hr;rw [hbs];have HBL : Hid (bs.length = bks.length) := hbl;obtain ⟨hfew,hoks⟩ := row_parts hr;have HOKS : Hid _ := hoks;have hfew2 : bks.length <= 6 := by omega
  clear hbs hbl hr hoks hfew;obtain ⟨WA,hWA,kA0,kB0,d0,z0⟩ := box2 w #[.int .i64 0,.int .i64 0,.int .i64 0,.int .i64 0,.int .i64 0,.int .i64 0,.int .i64 0,.int .i64 0,.int .i64 0,.int .i64 0,.int .i64 0,.int .i64 0,.int .i64 0,.int .i64 0,.int .i64 0,.int .i64 0,.int .i64 0,.int .i64 0,.int .i64 0,.int .i64 0,.int .i64 0,.int .i64 0,.int .i64 0,.int .i64 0] #[.int .i64 0,.int .i64 0,.int .i64 0,.int .i64 0,.int .i64 0,.int .i64 0,.int .i64 0,.int .i64 0,.int .i64 0,.int .i64 0,.int .i64 0,.int .i64 0,.int .i64 0,.int .i64 0,.int .i64 0,.int .i64 0,.int .i64 0,.int .i64 0,.int .i64 0,.int .i64 0,.int .i64 0,.int .i64 0,.int .i64 0,.int .i64 0] 176 176;have HWA : Hid (WA = _) := hWA;have HKB : Hid (((w.alloc (.cells #[.int .i64 0,.int .i64 0,.int .i64 0,.int .i64 0,.int .i64 0,.int .i64 0,.int .i64 0,.int .i64 0,.int .i64 0,.int .i64 0,.int .i64 0,.int .i64 0,.int .i64 0,.int .i64 0,.int .i64 0,.int .i64 0,.int .i64 0,.int .i64 0,.int .i64 0,.int .i64 0,.int .i64 0,.int .i64 0,.int .i64 0,.int .i64 0] 176)).alloc (.cells #[.int .i64 0,.int .i64 0,.int .i64 0,.int .i64 0,.int .i64 0,.int .i64 0,.int .i64 0,.int .i64 0,.int .i64 0,.int .i64 0,.int .i64 0,.int .i64 0,.int .i64 0,.int .i64 0,.int .i64 0,.int .i64 0,.int .i64 0,.int .i64 0,.int .i64 0,.int .i64 0,.int .i64 0,.int .i64 0,.int .i64 0,.int .i64 0] 176)).heap[w.heap.size + 1]? = some (.cells #[.int .i64 0,.int .i64 0,.int .i64 0,.int .i64 0,.int .i64 0,.int .i64 0,.int .i64 0,.int .i64 0,.int .i64 0,.int .i64 0,.int .i64 0,.int .i64 0,.int .i64 0,.int .i64 0,.int .i64 0,.int .i64 0,.int .i64 0,.int .i64 0,.int .i64 0,.int .i64 0,.int .i64 0,.int .i64 0,.int .i64 0,.int .i64 0] 176 (0,0))) := by rw [Hid,<- hWA];exact kB0
  have HI0 : Hid ((Tryz.prog.info? 176).map (·.size) = some (#[.int .i64 0,.int .i64 0,.int .i64 0,.int .i64 0,.int .i64 0,.int .i64 0,.int .i64 0,.int .i64 0,.int .i64 0,.int .i64 0,.int .i64 0,.int .i64 0,.int .i64 0,.int .i64 0,.int .i64 0,.int .i64 0,.int .i64 0,.int .i64 0,.int .i64 0,.int .i64 0,.int .i64 0,.int .i64 0,.int .i64 0,.int .i64 0] : Array Value).size) := info24;have HO0 : Hid ((#[.int .i64 0,.int .i64 0,.int .i64 0,.int .i64 0,.int .i64 0,.int .i64 0,.int .i64 0,.int .i64 0,.int .i64 0,.int .i64 0,.int .i64 0,.int .i64 0,.int .i64 0,.int .i64 0,.int .i64 0,.int .i64 0,.int .i64 0,.int .i64 0,.int .i64 0,.int .i64 0,.int .i64 0,.int .i64 0,.int .i64 0,.int .i64 0] : Array Value).all (·.oneCell') = true) := one_cells (List.replicate 24 0) _ rfl
  have own0 : (WA.setRow (w.heap.size + 1) #[.int .i64 0,.int .i64 0,.int .i64 0,.int .i64 0,.int .i64 0,.int .i64 0,.int .i64 0,.int .i64 0,.int .i64 0,.int .i64 0,.int .i64 0,.int .i64 0,.int .i64 0,.int .i64 0,.int .i64 0,.int .i64 0,.int .i64 0,.int .i64 0,.int .i64 0,.int .i64 0,.int .i64 0,.int .i64 0,.int .i64 0,.int .i64 0]).ownsRow (w.heap.size + 1) 176 1 (.slice (some ⟨w.heap.size + 1,0,none⟩) 24 24) 24 ((row24 (fun k => cntAll (bs.take 0) (k : Int))).map (Value.int .i64)) := by
    have e0 : row24 (fun k => cntAll (bs.take 0) (k : Int)) = List.replicate 24 0 := by rw [row24_zero];exact row24_congr _ _ (fun k hk => rfl)
    rw [e0];exact own_block (setRow_row kB0) (Nat.le_refl _) (by unfold maxLen;omega) rfl rfl
  have k0 : (WA.setRow (w.heap.size + 1) #[.int .i64 0,.int .i64 0,.int .i64 0,.int .i64 0,.int .i64 0,.int .i64 0,.int .i64 0,.int .i64 0,.int .i64 0,.int .i64 0,.int .i64 0,.int .i64 0,.int .i64 0,.int .i64 0,.int .i64 0,.int .i64 0,.int .i64 0,.int .i64 0,.int .i64 0,.int .i64 0,.int .i64 0,.int .i64 0,.int .i64 0,.int .i64 0]).heap[w.heap.size]? = some (.cells zeros24 176 (0,0)) := ((setRow_below (B := w.heap.size + 1) (Nat.le_refl _)).block _ (by omega)).trans kA0;replace d0 : Below w.heap.size w (WA.setRow (w.heap.size + 1) #[.int .i64 0,.int .i64 0,.int .i64 0,.int .i64 0,.int .i64 0,.int .i64 0,.int .i64 0,.int .i64 0,.int .i64 0,.int .i64 0,.int .i64 0,.int .i64 0,.int .i64 0,.int .i64 0,.int .i64 0,.int .i64 0,.int .i64 0,.int .i64 0,.int .i64 0,.int .i64 0,.int .i64 0,.int .i64 0,.int .i64 0,.int .i64 0]) := d0.trans (setRow_below (by omega));clear hWA z0 kA0 kB0
  go_enter Tryz.func143,Tryz.ntmps143
  go_wp2_with (with_reducible refine wpList_store_arr rfl _ _ 176 rfl (w.heap.size + 1) rfl #[.int .i64 0,.int .i64 0,.int .i64 0,.int .i64 0,.int .i64 0,.int .i64 0,.int .i64 0,.int .i64 0,.int .i64 0,.int .i64 0,.int .i64 0,.int .i64 0,.int .i64 0,.int .i64 0,.int .i64 0,.int .i64 0,.int .i64 0,.int .i64 0,.int .i64 0,.int .i64 0,.int .i64 0,.int .i64 0,.int .i64 0,.int .i64 0] rfl #[.int .i64 0,.int .i64 0,.int .i64 0,.int .i64 0,.int .i64 0,.int .i64 0,.int .i64 0,.int .i64 0,.int .i64 0,.int .i64 0,.int .i64 0,.int .i64 0,.int .i64 0,.int .i64 0,.int .i64 0,.int .i64 0,.int .i64 0,.int .i64 0,.int .i64 0,.int .i64 0,.int .i64 0,.int .i64 0,.int .i64 0,.int .i64 0] 176 HKB.out HI0.out rfl HO0.out ?_)
  rw [<- HWA.out];clear HWA HKB HI0 HO0;generalize WA.setRow (w.heap.size + 1) #[.int .i64 0,.int .i64 0,.int .i64 0,.int .i64 0,.int .i64 0,.int .i64 0,.int .i64 0,.int .i64 0,.int .i64 0,.int .i64 0,.int .i64 0,.int .i64 0,.int .i64 0,.int .i64 0,.int .i64 0,.int .i64 0,.int .i64 0,.int .i64 0,.int .i64 0,.int .i64 0,.int .i64 0,.int .i64 0,.int .i64 0,.int .i64 0] = W0 at *
  go_loopw [11] (fun i wr => ∃ q : Nat,q <= bks.length /\ i = .int .i64 q /\ wr.ownsRow (w.heap.size + 1) 176 1 (.slice (some ⟨w.heap.size + 1,0,none⟩) 24 24) 24 ((row24 (fun k => cntAll (bs.take q) (k : Int))).map (Value.int .i64)) /\ wr.heap[w.heap.size]? = some (.cells zeros24 176 (0,0)) /\ Below w.heap.size w wr) (fun i _ => bks.length - (intOf i).toNat)
  case atStart => exact ⟨0,Nat.zero_le _,rfl,own0,k0,d0⟩
  case round =>
    clear own0 k0 d0;obtain ⟨q,hq,rfl,own,kA,hb⟩ := hrel;by_cases hlt : q < bks.length
    · obtain ⟨g,off,rfl,hg,a0,a1,a2,a3,a4⟩ := CB.out q hlt
      have hltb : q < bs.length := by have := HBL.out;omega
      have rm := (RM.out bks[q] (List.getElem_mem hlt)).below hb;have hfr := HF.out bks[q] (List.getElem_mem hlt);have hat := HAT.out q hlt hltb;have hokq := HOKS.out q hltb
      obtain ⟨x,hx⟩ : ∃ x,bks[q] = x := ⟨_,rfl⟩
      rw [hx] at a0 a1 a2 a3 a4 rm hat hfr;clear hx;obtain ⟨nm,sz,m,rs,fx,ep⟩ := x;simp only at a0 a1 a2 a3 a4 rm hfr;obtain ⟨o',cap',hm'⟩ := rm.form;subst hm';replace a0 := (hb.cell (p := ⟨g,off + q * 5,none⟩) hg).trans a0;replace a1 := (hb.cell (p := ⟨g,off + q * 5 + 1,none⟩) hg).trans a1;replace a2 := (hb.cell (p := ⟨g,off + q * 5 + 2,none⟩) hg).trans a2;replace a3 := (hb.cell (p := ⟨g,off + q * 5 + 3,none⟩) hg).trans a3;replace a4 := (hb.cell (p := ⟨g,off + q * 5 + 4,none⟩) hg).trans a4;obtain ⟨WB,hWB,kB,dB,zB⟩ := box1 wr #[.string nm,.int .i64 sz,.slice o' rs.length cap',.bool fx,.int .i64 ep] 87;have HWB : Hid (WB = _) := hWB;have hbB := bw_call hb dB;have ownB := owns_below own dB;have kAB := (dB.block _ (heap_lt kA)).trans kA;have rmB := (rm.below (dB.mono hb.size)).mono hbB.size
      have HCNT : Hid (∀ k : Nat,((pagesOf rs).count (k : Int) : Int) = bs[q].cnt (k : Int)) := fun k => by
        have h := pagesOf_cnt bs[q] hokq k;rw [hat] at h ⊢;exact h
      have hmp : mapOk rs = true := by
        have h := (book_parts hokq).2.2.2.1;rw [hat] at h;exact h
      have HPI : Hid (∀ p ∈ pagesOf rs,0 <= p /\ p <= 23) := fun p hp => pagesOf_in rs hmp p hp
      have hpf := pagesOf_few rs;have i0 : (0 : Int) <= (q : Int) := by omega
      have i1 : (q : Int) < (bks.length : Int) := by omega
      have b2 := at_cell kB 2;clear hWB zB rm own kA hokq hat
      go_wp2_with fail
      rw [<- HWB.out];clear HWB b2;refine (implPagesOf_any _ rs _ hfr rmB).mono ?_;rintro e w6 ⟨v',rfl,own6,hnn,b6⟩;generalize pagesOf rs = L at *
      obtain ⟨g6,cap6,hv6⟩ : ∃ g6 cap6,v' = .slice (some ⟨g6,0,none⟩) L.length cap6 := by
        rcases own6.2 with ⟨e,_⟩ | ⟨g6,cap6,_,e,_⟩
        · exact absurd e hnn
        · exact ⟨g6,cap6,e⟩
      subst hv6;have hg6 := own6.lt g6 rfl;have ownc := owns_below ownB b6;have kAc := (b6.block _ (heap_lt kAB)).trans kAB;have hlc := (ownB.lt (w.heap.size + 1) rfl).2;have hne6 : ¬ g6 = w.heap.size + 1 := by omega
      have hb6 := bw_call hbB b6;have hcl := own6.cellAt;have HCL : Hid (∀ j,j < L.length -> w6.cell? ⟨g6,j,none⟩ = some (.int .i64 (L.getD j 0))) := fun j hj => (hcl j (by omega)).trans (getD_some L j hj)
      have hgl : g6 < w6.heap.size := hg6.2;clear hcl own6 hnn b6 ownB kAB rmB hbB dB kB a0 a1 a2 a3 a4
      go_wp2_with fail
      go_loopw [19] (fun i wr2 => ∃ j : Nat,j <= L.length /\ i = .int .i64 j /\ wr2.ownsRow (w.heap.size + 1) 176 1 (.slice (some ⟨w.heap.size + 1,0,none⟩) 24 24) 24 ((row24 (fun k => cntAll (bs.take q) (k : Int) + ((L.take j).count (k : Int) : Int))).map (Value.int .i64)) /\ Upto (w.heap.size + 1) w6 wr2) (fun i _ => L.length - (intOf i).toNat)
      case atStart =>
        refine ⟨0,Nat.zero_le _,rfl,?_,Upto.refl _ _⟩;rw [row24_congr _ (fun k => cntAll (bs.take q) (k : Int)) (fun k hk => by simp)];exact ownc
      case round =>
        clear ownc;obtain ⟨j,hj,rfl,own,u⟩ := hrel;by_cases hlt2 : j < L.length
        · have hpj := HPI.out (L.getD j 0) (by rw [getD_of L j hlt2];exact List.getElem_mem hlt2)
          have cj := (u.cell (p := ⟨g6,j,none⟩) hgl hne6).trans (HCL.out j hlt2)
          have HCT : Hid (∀ k : Nat,((L.take (j + 1)).count (k : Int) : Int) = ((L.take j).count (k : Int) : Int) + (if L.getD j 0 = (k : Int) then 1 else 0)) := fun k => by
            rw [count_take L j hlt2,getD_of L j hlt2]
          generalize L.getD j 0 = p at hpj cj HCT;obtain ⟨m,rfl⟩ := Int.eq_ofNat_of_zero_le hpj.1;obtain ⟨cn,fn,ow⟩ := arr24_inc own m (by omega);have hx0 : 0 <= cntAll (bs.take q) (m : Int) := cntAll_nonneg _ _
          have hx1 : cntAll (bs.take q) (m : Int) <= 96 := by
            have h1 := cntAll_le (bs.take q) (m : Int);have h2 : (bs.take q).length <= q := by rw [List.length_take];omega
            omega
          have hx2 : (L.take j).count (m : Int) <= 16 := by
            have := List.count_le_length (a := (m : Int)) (l := L.take j);rw [List.length_take] at this
            omega
          have e1 : row24 (fun k => if m = k then cntAll (bs.take q) (m : Int) + ((L.take j).count (m : Int) : Int) + 1 else cntAll (bs.take q) (k : Int) + ((L.take j).count (k : Int) : Int)) = row24 (fun k => cntAll (bs.take q) (k : Int) + ((L.take (j + 1)).count (k : Int) : Int)) := row24_congr _ _ (fun k hk => by
            rw [HCT.out k];by_cases e : m = k
            · subst e;rw [if_pos rfl,if_pos rfl];omega
            · rw [if_neg e,if_neg (by omega)];omega)
          rw [e1] at ow;have HO : Hid _ := And.intro ow (u.setCell ⟨w.heap.size + 1,m,none⟩ (.inl rfl) (.int .i64 (cntAll (bs.take q) (m : Int) + ((L.take j).count (m : Int) : Int) + 1)));have hxx : 0 <= cntAll (bs.take q) (m : Int) + ((L.take j).count (m : Int) : Int) /\ cntAll (bs.take q) (m : Int) + ((L.take j).count (m : Int) : Int) <= 1000 := by omega
          generalize cntAll (bs.take q) (m : Int) + ((L.take j).count (m : Int) : Int) = x at cn HO hxx;have t0 : (0 : Int) <= (j : Int) := by omega
          have t1 : (j : Int) < (L.length : Int) := by omega
          have t2 : (0 : Int) <= (m : Int) := by omega
          have t3 : (m : Int) < 24 := by omega
          have t4 : m < 24 := by omega
          have hwx : IntKind.i64.wrap (x + 1) = x + 1 := by rw [IntKind.wrap_i64];omega
          clear ow e1 own HCT hx0 hx1 hx2
          go_wp2_with fail
          go_roundw
          case rel => exact ⟨j + 1,by omega,by go_num,HO.out.1,HO.out.2⟩
          case measure => simp [intOf];omega
        · have hjl : j = L.length := by omega
          have e1 : row24 (fun k => cntAll (bs.take q) (k : Int) + ((L.take j).count (k : Int) : Int)) = row24 (fun k => cntAll (bs.take (q + 1)) (k : Int)) := row24_congr _ _ (fun k hk => by
            rw [hjl,List.take_length,HCNT.out k,cntAll_take bs q hltb])
          rw [e1] at own;have kAd := (u.block _ (heap_lt kAc) (by omega)).trans kAc;have HO : Hid _ := And.intro own (And.intro kAd (hb6.trans (u.toBelow hb6.size (by omega))));clear own e1 kAd
          go_wp2_with fail
          go_roundw
          case rel => exact ⟨q + 1,by omega,by go_num,HO.out.1,HO.out.2.1,HO.out.2.2⟩
          case measure => simp [intOf];omega
    · have htk : bs.take q = bs := List.take_of_length_le (by have := HBL.out;omega)
      rw [htk] at own;obtain ⟨cur,hcur,hcl⟩ := own_cells own;have hcs : cur.size = 24 := by rw [<- Array.length_toList,hcl,List.length_map];exact row24_length _
      have HCL : Hid _ := hcl;have H1 : Hid (cur.all (·.oneCell') = true) := one_cells _ cur hcl;have HI : Hid ((Tryz.prog.info? 176).map (·.size) = some cur.size) := by rw [hcs];exact info24
      have HZ : Hid (zeros24.size = cur.size) := by rw [hcs];rfl
      have HCUR : Hid _ := hcur;have HKA : Hid _ := kA;have hbS : Below w.heap.size w (wr.setRow w.heap.size cur) := hb.trans (setRow_below (Nat.le_refl _));have hrow := setRow_row (cs := cur) kA;have HLD : Hid _ := run_loadVar_row (P := Tryz.prog) _ w.heap.size 176 176 cur (0,0) _ hrow Tryz.underlying176 rfl HI.out;have hql : ¬ (q : Int) < (bks.length : Int) := by omega
      clear own htk hcur hcl kA hcs hrow
      go_wp2_with (first | (with_reducible refine wpList_load_arr rfl _ 176 rfl (w.heap.size + 1) rfl cur 176 (0,0) HCUR.out _ Tryz.underlying176 rfl HI.out ?_) | (with_reducible refine wpList_store_arr rfl _ _ 176 rfl w.heap.size rfl cur rfl zeros24 176 HKA.out HI.out HZ.out H1.out ?_))
      refine bodyPost_ret (v := .agg cur) ?_ rfl ⟨cur,rfl,HCL.out,hbS⟩;simp [results,Tryz.results143,asAddr,HLD.out]
theorem countsOk_no {cs : List Int} {bs : List Pb} (k : Nat) (hk : k < 24) (h : countAt cs (k : Int) ≠ cntAll bs (k : Int)) : countsOk cs bs = false := by
  rw [countsOk,List.all_eq_false];refine ⟨k,List.mem_range.2 hk,?_⟩
  split
  · rename_i hl
    rw [countAt_of cs k hl] at h;rw [decide_eq_true_eq];exact fun e => h e.symm
  · rename_i hl
    unfold countAt at h;rw [if_neg (by omega)] at h;rw [decide_eq_true_eq];exact fun e => h e.symm
theorem countsOk_yes {cs : List Int} {bs : List Pb} (h : ∀ k : Nat,k < 24 -> countAt cs (k : Int) = cntAll bs (k : Int)) : countsOk cs bs = true := by
  rw [countsOk,List.all_eq_true];intro k hk;have hk := List.mem_range.1 hk;have := h k hk
  split
  · rename_i hl
    rw [countAt_of cs k hl] at this;exact decide_eq_true this.symm
  · rename_i hl
    unfold countAt at this;rw [if_neg (by omega)] at this;exact decide_eq_true this.symm
set_option maxRecDepth 100000 in
set_option maxHeartbeats 1600000 in
theorem implCountsOk_any (v1 v2 vb : Value) (cs ps : List Int) (bks : List Bk) (w : World) (hf : ∀ b ∈ bks,FitRuns b.rs) (hr : rowB (bks.map Bk.pb) = true) (r1 : Reads w.heap.size w v1 (cs.map (Value.int .i64))) (rb : ReadsB w.heap.size w vb bks) (fm2 : ∃ o n c,v2 = .slice o n c) :
    Calls Tryz.prog 94 #[.agg #[v1,v2],vb] w fun e w' => e = .returned (.bool (countsOk cs (bks.map Bk.pb))) /\ Below w.heap.size w w' := by
  obtain ⟨o2,n2,c2,hv2⟩ := fm2;subst hv2;obtain ⟨o1,cp1,f1,-,-,-⟩ := id r1;obtain ⟨ob,cpb,f3,-,-,-⟩ := id rb.row;simp only [List.length_map] at f1;subst f1 f3;obtain ⟨W0,hW0,k0,d0,z0⟩ := box1 w #[.slice o1 cs.length cp1,.slice o2 n2 c2] 39;have HW0 : Hid (W0 = _) := hW0;have s1 := (r1.below d0).mono d0.size;have sb := (rb.below d0).mono d0.size;clear hW0 z0 r1 rb
  go_enter Tryz.func94,Tryz.ntmps94
  go_wp2_with fail
  rw [<- HW0.out];clear HW0;refine (placesByPage_any _ bks _ hf hr sb).mono ?_;rintro e w1 ⟨c,rfl,hcl,b1⟩;replace k0 := (b1.block _ (heap_lt k0)).trans k0;replace d0 := bw_call d0 b1;replace s1 := (s1.below b1).mono b1.size;clear b1 sb
  obtain ⟨bs,hbs⟩ : ∃ bs,bks.map Bk.pb = bs := ⟨_,rfl⟩
  rw [hbs] at hcl;have HBS : Hid _ := hbs
  have HIX : Hid (∀ j : Nat,j < 24 -> ∀ w : World,(Instr.index 176 (.agg c) (.int .i64 (j : Int))).run Tryz.prog w = .ok (.int .i64 (cntAll bs (j : Int))) w) := fun j hj w => by
    have h := index24 c j _ hj (arr_at (row24 (fun k => cntAll bs (k : Int))) c hcl j (by rw [row24_length];exact hj)) w
    rwa [row24_get _ j hj] at h
  have l0 := heap_lt k0;clear hcl hbs
  go_wp2_with fail
  go_loopw [9] (fun i wr => ∃ k : Nat,k <= 24 /\ i = .int .i64 k /\ (∀ j : Nat,j < k -> countAt cs (j : Int) = cntAll bs (j : Int)) /\ Below w1.heap.size w1 wr) (fun i _ => 24 - (intOf i).toNat)
  case atStart => exact ⟨0,Nat.zero_le _,rfl,fun j h => by omega,Below.refl _ _⟩
  case round =>
    obtain ⟨k,hk,rfl,hall,hb⟩ := hrel;have HA : Hid _ := hall;clear hall;have kk := (hb.block _ l0).trans k0;have dk := bw_call d0 hb;by_cases hlt : k < 24
    · have hix := HIX.out k hlt
      have p0 := at_cell kk 0;have p1 := at_cell kk 1;have t0 : (0 : Int) <= (k : Int) := by omega
      have t1 : (k : Int) < 24 := by omega
      have sk := (s1.below hb).mono hb.size;have HN : Hid (countAt cs (k : Int) ≠ cntAll bs (k : Int) -> countsOk cs bs = false) := fun h => countsOk_no k hlt h
      have HY : Hid (countAt cs (k : Int) = cntAll bs (k : Int) -> ∀ j : Nat,j < k + 1 -> countAt cs (j : Int) = cntAll bs (j : Int)) := fun h j hj => by
        rcases Nat.lt_or_ge j k with z | z
        · exact HA.out j z
        · obtain rfl : j = k := by omega
          exact h
      generalize cntAll bs (k : Int) = y at *
      go_wp2_with fail
      clear p0 p1;refine (countAt_any _ _ cs (k : Int) _ sk).mono ?_;rintro e w3 ⟨rfl,b3⟩;generalize countAt cs (k : Int) = x at *;replace hb := bw_call hb b3;replace dk := bw_call dk b3;clear b3 sk;by_cases hxy : x = y
      · subst hxy
        have HY2 : Hid _ := HY.out rfl;clear HN HY HA
        go_wp2_with fail
        go_roundw
        case rel => exact ⟨k + 1,by omega,by go_num,HY2.out,hb⟩
        case measure => simp [intOf];omega
      · have HV : Hid _ := HN.out hxy
        have hne : (x != y) = true := by rw [bne_iff_ne];exact hxy
        clear HN HY HA
        go_wp2_with fail
        go_ret;exact ⟨ret_bool (by rw [HBS.out,HV.out]),dk⟩
    · have HV : Hid (countsOk cs bs = true) := countsOk_yes (fun j hj => HA.out j (by omega))
      have hql : ¬ (k : Int) < 24 := by omega
      clear HA
      go_wp2_with fail
      go_ret;exact ⟨ret_bool (by rw [HBS.out,HV.out]),dk⟩
set_option maxRecDepth 100000 in
set_option maxHeartbeats 3200000 in
theorem implShelfOk_any (v1 v2 vb : Value) (cs ps : List Int) (bks : List Bk) (w : World) (hn : ∀ b ∈ bks,b.nm.size <= maxLen) (hf : ∀ b ∈ bks,FitRuns b.rs) (r1 : Reads w.heap.size w v1 (cs.map (Value.int .i64))) (r2 : Reads w.heap.size w v2 (ps.map (Value.int .i64))) (rb : ReadsB w.heap.size w vb bks) :
    Calls Tryz.prog 54 #[.agg #[v1,v2,vb]] w fun e w' => e = .returned (.bool (shelfOk ⟨cs,ps,bks.map Bk.pb⟩)) /\ Below w.heap.size w w' := by
  obtain ⟨o1,cp1,f1,-,-,-⟩ := id r1;obtain ⟨o2,cp2,f2,-,-,-⟩ := id r2;obtain ⟨ob,cpb,f3,-,-,-⟩ := id rb.row;simp only [List.length_map] at f1 f2;subst f1 f2 f3;obtain ⟨W0,hW0,k0,d0,z0⟩ := box1 w #[.slice o1 cs.length cp1,.slice o2 ps.length cp2,.slice ob bks.length cpb] 42;have HW0 : Hid (W0 = _) := hW0;have s1 := (r1.below d0).mono d0.size;have s2 := (r2.below d0).mono d0.size;have sb := (rb.below d0).mono d0.size;have HSP : Hid _ := shelfOk_parts ⟨cs,ps,bks.map Bk.pb⟩;simp only at HSP
  obtain ⟨bs,hbs⟩ : ∃ bs,bks.map Bk.pb = bs := ⟨_,rfl⟩
  have HB : Hid _ := hbs;rw [hbs] at HSP;clear hW0 z0 r1 r2 rb hbs
  go_enter Tryz.func54,Tryz.ntmps54
  go_wp2_with fail
  rw [<- HW0.out];clear HW0;refine (implPoolOk_any _ _ cs ps _ s1 s2).mono ?_;rintro e w1 ⟨rfl,b1⟩;replace k0 := (b1.block _ (heap_lt k0)).trans k0;replace d0 := bw_call d0 b1;replace s1 := (s1.below b1).mono b1.size;replace sb := (sb.below b1).mono b1.size;clear b1 s2;cases hp : poolOk cs ps
  · have HV : Hid (shelfOk ⟨cs,ps,bs⟩ = false) := by rw [Hid,HSP.out,hp];rfl
    clear hp HSP k0
    go_wp2_with fail
    go_ret;exact ⟨ret_bool (by rw [HB.out,HV.out]),d0⟩
  have HP : Hid _ := hp;have q2 := at_cell k0 2;clear hp
  go_wp2_with fail
  clear q2;refine (rowOk_any _ bks _ hn hf sb).mono ?_;rw [HB.out];rintro e w2 ⟨rfl,b2⟩;replace k0 := (b2.block _ (heap_lt k0)).trans k0;replace d0 := bw_call d0 b2;replace s1 := (s1.below b2).mono b2.size;replace sb := (sb.below b2).mono b2.size;clear b2;cases hr : rowB bs
  · have HV : Hid (shelfOk ⟨cs,ps,bs⟩ = false) := by rw [Hid,HSP.out,HP.out,hr];rfl
    clear hr HSP k0
    go_wp2_with fail
    go_ret;exact ⟨ret_bool (by rw [HB.out,HV.out]),d0⟩
  have HV : Hid (shelfOk ⟨cs,ps,bs⟩ = countsOk cs bs) := by rw [Hid,HSP.out,HP.out,hr];simp
  have HRB : Hid (rowB (bks.map Bk.pb) = true) := by rw [Hid,HB.out];exact hr
  obtain ⟨q0,q1,q2⟩ := c3 k0;clear hr HSP
  go_wp2_with fail
  clear q0 q1 q2;refine (implCountsOk_any _ _ _ cs ps bks _ hf HRB.out s1 sb ⟨_,_,_,rfl⟩).mono ?_;rw [HB.out];rintro e w3 ⟨rfl,b3⟩;replace d0 := bw_call d0 b3;generalize countsOk cs bs = cv at *;clear b3 k0
  go_wp2_with fail
  go_ret;exact ⟨ret_bool (by rw [HB.out,HV.out]),d0⟩
theorem shown_no {s : Sf} (h : shelfOk s = false) : shownPlain s = [] := by simp [shownPlain,h]
theorem shown_yes {s : Sf} (h : shelfOk s = true) : shownPlain s = s.bs.map (shownP s.ps) := by simp [shownPlain,h]
theorem inv_parts {cs ps : List Int} {bks : List Bk} (hinv : ShInv ⟨cs,ps,bks.map Bk.pb⟩) (i : Nat) (h : i < bks.length) : mapOk bks[i].rs = true /\ (1 <= bks[i].sz /\ bks[i].sz <= 16) /\ ∀ k,k < 16 -> -1 <= (pages bks[i].rs).getD k 0 /\ (pages bks[i].rs).getD k 0 < ps.length := by
  have := shown_parts hinv i (by simpa using h)
  simpa [Bk.pb] using this
theorem inv_name {cs ps : List Int} {bks : List Bk} (hinv : ShInv ⟨cs,ps,bks.map Bk.pb⟩) (i : Nat) (h : i < bks.length) : bks[i].nm.size <= 1099511627776 := by
  have hb := (book_parts (hinv.oks _ (List.getElem_mem (show i < (bks.map Bk.pb).length by simpa using h)))).1;simp only [List.getElem_map,Bk.pb] at hb
  have h2 : bks[i].nm.data.toList.length <= 8 := by
    simp only [Nums.nameB,Bool.and_eq_true,decide_eq_true_eq] at hb
    omega
  have h3 : bks[i].nm.size = bks[i].nm.data.toList.length := by rw [Array.length_toList];rfl
  omega
set_option maxHeartbeats 3200000 in
theorem specShownPlain_any (v1 v2 vb : Value) (cs ps : List Int) (bks : List Bk) (w : World) (hn : ∀ b ∈ bks,b.nm.size <= maxLen) (r1 : Reads w.heap.size w v1 (cs.map (Value.int .i64))) (r2 : Reads w.heap.size w v2 (ps.map (Value.int .i64))) (rb : ReadsB w.heap.size w vb bks) :
    Calls Tryz.prog 20 #[.agg #[v1,v2,vb]] w fun e w' => ∃ (v' : Value) (ms : List Pk),e = .returned v' /\ ms.map Pk.pv = shownPlain ⟨cs,ps,bks.map Bk.pb⟩ /\ OwnK w.heap.size w' v' ms /\ Below w.heap.size w w' := by
  obtain ⟨W0,hW0,k0,d0,z0⟩ := box1 w #[v1,v2,vb] 42;have s1 := (r1.below d0).mono d0.size;have s2 := (r2.below d0).mono d0.size;have sb := (rb.below d0).mono d0.size;have HW0 : Hid (W0 = _) := hW0;obtain ⟨p0,p1,p2⟩ := c3 k0
  have HR : Hid (Reads W0.heap.size W0 v1 (cs.map (Value.int .i64)) /\ Reads W0.heap.size W0 v2 (ps.map (Value.int .i64)) /\ ReadsB W0.heap.size W0 vb bks) := ⟨s1,s2,sb⟩
  have HN : Hid (∀ b ∈ bks,b.nm.size <= maxLen) := hn;have P0 : Hid _ := k0
  obtain ⟨ok,hok⟩ : ∃ x,shelfOk ⟨cs,ps,bks.map Bk.pb⟩ = x := ⟨_,rfl⟩
  have HOK : Hid (shelfOk ⟨cs,ps,bks.map Bk.pb⟩ = ok) := hok
  obtain ⟨sp,hsp⟩ : ∃ x,shownPlain ⟨cs,ps,bks.map Bk.pb⟩ = x := ⟨_,rfl⟩
  have HSP : Hid (shownPlain ⟨cs,ps,bks.map Bk.pb⟩ = sp) := hsp;rw [hsp];obtain ⟨o1,cp1,rfl,-⟩ := id r1;obtain ⟨o2,cp2,rfl,-⟩ := id r2;obtain ⟨ob,cpb,rfl,-⟩ := id rb.row;simp only [List.length_map] at *;clear hW0 z0 s1 s2 sb r1 r2 rb hn hok hsp k0
  go_enter Tryz.func20,Tryz.ntmps20
  go_wp2_with fail
  rw [<- HW0.out];clear HW0
  go_wp2_with fail
  refine (specShelfOk_any _ _ _ cs ps bks _ HN.out HR.out.1 HR.out.2.1 HR.out.2.2).mono ?_;rw [HOK.out];rintro e w1 ⟨rfl,b1⟩;have db : Below w.heap.size w w1 := d0.trans (b1.mono d0.size);have k1 := (b1.block _ (heap_lt P0.out)).trans P0.out;obtain ⟨q0,q1,q2⟩ := c3 k1;clear p0 p1 p2;cases ok
  · have HE : Hid (sp = []) := by rw [Hid,<- HSP.out];exact shown_no HOK.out
    have HF : Hid _ := And.intro ((OwnK.mk (bs := []) (own_noplains w1) (fun b hb => by cases hb)).mono db.size) (bw_alloc (o := .cells #[] 51) db);clear db b1
    go_wp2_with fail
    go_ret;exact ⟨_,[],rfl,HE.out.symm,HF.out⟩
  · have HE : Hid (sp = (bks.map Bk.pb).map (shownP ps)) := by rw [Hid,<- HSP.out];exact shown_yes HOK.out
    have hinv := (shelfOk_iff _).1 HOK.out;have HI : Hid (ShInv ⟨cs,ps,bks.map Bk.pb⟩) := hinv;have HR1 : Hid _ := And.intro ((HR.out.1.below b1).mono b1.size) (And.intro ((HR.out.2.1.below b1).mono b1.size) ((HR.out.2.2.below b1).mono b1.size));clear hinv
    go_wp2_with fail
    refine (l9Shown_any _ _ _ cs ps bks _ HI.out HR1.out.1 HR1.out.2.1 HR1.out.2.2).mono ?_;rintro e w2 ⟨v',ms,rfl,hms,ow,b2⟩
    have HF : Hid (ms.map Pk.pv = sp /\ OwnK w.heap.size w2 v' ms /\ Below w.heap.size w w2) := ⟨by rw [HE.out];exact hms,ow.mono db.size,db.trans (b2.mono db.size)⟩
    clear hms ow b2 db
    go_wp2_with fail
    go_ret;exact ⟨_,ms,rfl,HF.out⟩
end Go.Proofs.YtcefcglonooelaaGreatDoor
namespace Go.Proofs.YtcefcglonooelaaGreatDoor
open Go.RowKit
set_option linter.unusedVariables false
set_option maxRecDepth 100000
structure OwnV (base : Nat) (w : World) (v1 v2 vb : Value) (cs ps : List Int) (bks : List Bk) : Prop where
  p : RP w.heap.size w v1 v2 cs ps
  b : OwnB base w vb bks
theorem OwnV.below {base : Nat} {w w' : World} {v1 v2 vb : Value} {cs ps : List Int} {bks : List Bk} (h : OwnV base w v1 v2 vb cs ps bks) (k : Below w.heap.size w w') : OwnV base w' v1 v2 vb cs ps bks := ⟨(h.p.below k).mono k.size,h.b.below k⟩
theorem OwnV.reads {base : Nat} {w : World} {v1 v2 vb : Value} {cs ps : List Int} {bks : List Bk} (h : OwnV base w v1 v2 vb cs ps bks) : RS w.heap.size w v1 v2 vb cs ps bks := ⟨h.p,h.b.reads⟩
theorem OwnV.forms {base : Nat} {w : World} {v1 v2 vb : Value} {cs ps : List Int} {bks : List Bk} (h : OwnV base w v1 v2 vb cs ps bks) : ∃ o1 k1 o2 k2 ob kb,v1 = .slice o1 cs.length k1 /\ v2 = .slice o2 ps.length k2 /\ vb = .slice ob bks.length kb := h.reads.forms
end Go.Proofs.YtcefcglonooelaaGreatDoor
