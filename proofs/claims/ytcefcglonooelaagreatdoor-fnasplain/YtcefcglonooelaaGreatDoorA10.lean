import Derived.Deep.DeepCutAuto
import Derived.Laws.Cover1
import Derived.Test.YtcefcglonooelaaGreatDoorA05
import Derived.Test.YtcefcglonooelaaGreatDoorA06
import Derived.Test.YtcefcglonooelaaGreatDoorA09
namespace Go.Proofs.YtcefcglonooelaaGreatDoor
open Go.RowKit
set_option linter.unusedVariables false
theorem cell_i64 {B : Nat} {w : World} {o : Option Addr} {xs : List Int} (hc : ∀ j u,(xs.map (Value.int .i64))[j]? = some u -> ∃ g off,o = some ⟨g,off,none⟩ /\ g < B /\ w.cell? ⟨g,off + j,none⟩ = some u) (j : Nat) (hj : j < xs.length) : ∃ g off,o = some ⟨g,off,none⟩ /\ g < B /\ w.cell? ⟨g,off + j,none⟩ = some (.int .i64 (xs.getD j 0)) := hc j _ (getD_some xs j hj)
theorem row24_inc {w : World} {base g : Nat} {f : Nat -> Int} (h : w.ownsRow base 2 1 (.slice (some ⟨g,0,none⟩) 24 24) 24 ((row24 f).map (Value.int .i64))) (m : Nat) (hm : m < 24) :
    w.cell? ⟨g,m,none⟩ = some (.int .i64 (f m)) /\ w.frozen? ⟨g,m,none⟩ = false /\ (w.setCell ⟨g,m,none⟩ (.int .i64 (f m + 1))).ownsRow base 2 1 (.slice (some ⟨g,0,none⟩) 24 24) 24 ((row24 (fun k => if m = k then f m + 1 else f k)).map (Value.int .i64)) := by
  refine ⟨?_,h.frozenAt m,?_⟩
  · rw [h.cellAt m (by omega),getD_some _ m (by rw [row24_length];exact hm),row24_get f m hm]
  · have := (h.stored m (.int .i64 (f m + 1))).1
    rwa [<- List.map_set,row24_set f m hm] at this
set_option maxRecDepth 100000 in
set_option maxHeartbeats 6400000 in
theorem specShelfOk_any (v1 v2 vb : Value) (cs ps : List Int) (bks : List Bk) (w : World) (hn : ∀ b ∈ bks,b.nm.size <= maxLen) (r1 : Reads w.heap.size w v1 (cs.map (Value.int .i64))) (r2 : Reads w.heap.size w v2 (ps.map (Value.int .i64))) (rb : ReadsB w.heap.size w vb bks) :
    Calls Tryz.prog 21 #[.agg #[v1,v2,vb]] w fun e w' => e = .returned (.bool (shelfOk ⟨cs,ps,bks.map Bk.pb⟩)) /\ Below w.heap.size w w' := by
  obtain ⟨W0,hW0,k0,d0,z0⟩ := box1 w #[v1,v2,vb] 42;have s1 := (r1.below d0).mono d0.size;have s2 := (r2.below d0).mono d0.size;have sb := (rb.below d0).mono d0.size;have HW0 : Hid (W0 = _) := hW0;have HN : Hid _ := hn;have l0 := heap_lt k0;obtain ⟨o1,cp1,f1,m1,-,-⟩ := s1;obtain ⟨o2,cp2,f2,m2,-,-⟩ := s2;obtain ⟨ob,cpb,f3,mb,-,-⟩ := sb.row;simp only [List.length_map] at f1 f2 m1;subst f1 f2 f3;have s1 := (r1.below d0).mono d0.size;have s2 := (r2.below d0).mono d0.size;unfold maxLen at mb m1;clear hW0 z0 r1 r2 rb hn
  go_enter Tryz.func21,Tryz.ntmps21
  go_wp2_with fail
  rw [<- HW0.out];clear HW0;refine (specPoolOk_any _ _ cs ps _ s1 s2).mono ?_;rintro e w1 ⟨rfl,b1⟩;replace k0 := (b1.block _ l0).trans k0;replace d0 := bw_call d0 b1;replace s1 := (s1.below b1).mono b1.size;replace sb := (sb.below b1).mono b1.size;replace l0 := Nat.lt_of_lt_of_le l0 b1.size;clear b1 s2;have p2 := at_cell k0 2;cases hpo : poolOk cs ps
  · have HV : Hid _ := shelf_no_pool ⟨cs,ps,bks.map Bk.pb⟩ hpo
    clear hpo k0
    go_wp2_with fail
    go_ret;exact ⟨ret_bool HV.out.symm,d0⟩
  have HPO : Hid _ := hpo;clear hpo;by_cases hmany : 6 < bks.length
  · have HV : Hid _ := shelf_no_many ⟨cs,ps,bks.map Bk.pb⟩ (by simpa using hmany)
    have h6 : (6 : Int) < (bks.length : Int) := by omega
    clear k0
    go_wp2_with fail
    go_ret;exact ⟨ret_bool HV.out.symm,d0⟩
  have h6 : ¬ (6 : Int) < (bks.length : Int) := by omega
  obtain ⟨M,-,hmk,hown⟩ := made_ints 24 (by omega);have own0 := hown w1 w1.heap.size (Nat.le_refl _);have bd0 : Below w1.heap.size w1 (w1.alloc (.cells M 2)) := bw_alloc (Below.refl _ _);rw [row24_zero] at own0;have e24 : ((24 : Nat) : Int) = 24 := rfl;rw [e24] at hmk;clear hown e24
  go_wp2_with fail
  generalize w1.alloc (.cells M 2) = WM at *;clear hmk p2
  obtain ⟨bs,hbs⟩ : ∃ bs,bks.map Bk.pb = bs := ⟨_,rfl⟩
  have hbl : bs.length = bks.length := by rw [<- hbs,List.length_map]
  have HAT : Hid (∀ (i : Nat) (h1 : i < bks.length) (h2 : i < bs.length),bs[i] = bks[i].pb) := fun i h1 h2 => by subst hbs;simp
  have HBS : Hid _ := hbs;have HBL : Hid (bs.length = bks.length) := hbl;obtain ⟨ob',cpb',eb,-,cb,-⟩ := sb.row;cases eb;have CB : Hid _ := five_cells cb;have RM : Hid _ := sb.maps;have d1 : Below w.heap.size w WM := bw_call d0 bd0;clear cb hbs
  go_loopw [4] (fun i wr => ∃ q : Nat,q <= bks.length /\ i = .int .i64 q /\ (∀ j (hj : j < bs.length),j < q -> bs[j].ok = true) /\ (∀ j (hj : j + 1 < bs.length),j + 1 < q -> ltB (bs[j]'(by omega)).nm bs[j + 1].nm = true) /\ wr.ownsRow w1.heap.size 2 1 (.slice (some ⟨w1.heap.size,0,none⟩) 24 24) 24 ((row24 (fun k => cntAll (bs.take q) (k : Int))).map (Value.int .i64)) /\ Below w1.heap.size w1 wr) (fun i _ => bks.length - (intOf i).toNat)
  case atStart => exact ⟨0,Nat.zero_le _,rfl,fun j _ h => by omega,fun j _ h => by omega,own0,bd0⟩
  case round =>
    clear own0 bd0 d1;obtain ⟨q,hq,rfl,hoks,hsrt,own,hb⟩ := hrel;have HOKS : Hid _ := hoks;have HSRT : Hid _ := hsrt;have kq := (hb.block _ l0).trans k0;have dq := bw_call d0 hb;have lq : w.heap.size < wr.heap.size := Nat.lt_of_lt_of_le l0 hb.size;clear hoks hsrt;by_cases hlt : q < bks.length
    · obtain ⟨g,off,rfl,hg,a0,a1,a2,a3,a4⟩ := CB.out q hlt
      have hltb : q < bs.length := by have := HBL.out;omega
      have rm := (RM.out bks[q] (List.getElem_mem hlt)).below hb;have hnm := HN.out bks[q] (List.getElem_mem hlt);have hat := HAT.out q hlt hltb
      have HPREV : Hid (∀ q',q = q' + 1 -> ∃ (h : q' < bs.length),wr.cell? ⟨g,off + q' * 5,none⟩ = some (.string bs[q'].nm)) := fun q' e => by
        have hl' : q' < bks.length := by omega
        obtain ⟨g',off',e',hg',c0,-⟩ := CB.out q' hl';cases e';have hl2 : q' < bs.length := by have := HBL.out;omega
        refine ⟨hl2,?_⟩;rw [HAT.out q' hl' hl2];exact (hb.cell (p := ⟨g,off + q' * 5,none⟩) hg).trans c0
      obtain ⟨x,hx⟩ : ∃ x,bks[q] = x := ⟨_,rfl⟩
      rw [hx] at a0 a1 a2 a3 a4 rm hnm hat;clear hx;obtain ⟨nm,sz,m,rs,fx,ep⟩ := x;simp only at a0 a1 a2 a3 a4 rm hnm;obtain ⟨o',cap',hm'⟩ := rm.form;subst hm';have lg : g < wr.heap.size := Nat.lt_of_lt_of_le hg hb.size;have hne := BelowOf.any wr;have c0 := BelowOf.cell ((hb.cell (p := ⟨g,off + q * 5,none⟩) hg).trans a0) lg;have c1 := BelowOf.cell ((hb.cell (p := ⟨g,off + q * 5 + 1,none⟩) hg).trans a1) lg;have c2 := BelowOf.cell ((hb.cell (p := ⟨g,off + q * 5 + 2,none⟩) hg).trans a2) lg;have c3 := BelowOf.cell ((hb.cell (p := ⟨g,off + q * 5 + 3,none⟩) hg).trans a3) lg;have c4 := BelowOf.cell ((hb.cell (p := ⟨g,off + q * 5 + 4,none⟩) hg).trans a4) lg;have cB := BelowOf.cell (v := .slice (some ⟨g,off,none⟩) bks.length cpb) (at_cell kq 2) lq
      obtain ⟨okv,hok⟩ : ∃ x,bookOk nm sz rs ep = x := ⟨_,rfl⟩
      have HOK : Hid (bookOk nm sz rs ep = okv) := hok;have HBO : Hid (bs[q].ok = okv) := by rw [Hid,hat];exact hok
      have HBN : Hid (bs[q].nm = nm /\ bs[q].rs = rs) := by rw [Hid,hat];exact ⟨rfl,rfl⟩
      have H52 : ∀ z : BelowOf wr,Calls Tryz.prog 58 #[.agg #[.string nm,.int .i64 sz,.slice o' rs.length cap',.bool fx,.int .i64 ep]] z.w' fun e w' => e = .returned (.bool okv) /\ Below z.w'.heap.size z.w' w' := fun z => by have h := specBookOk_any nm sz _ rs fx ep z.w' hnm (rm.of hb.size z);rwa [HOK.out] at h
      have i0 : (0 : Int) <= (q : Int) := by omega
      have i1 : (q : Int) < (bks.length : Int) := by omega
      have pB := at_cell kq 2;clear hok hat a0 a1 a2 a3 a4
      go_upto_region 7 with fail
      clear pB
      go_cut [52] (fun v wx => ∃ y : Bool,v = .bool y /\ (y = true -> shelfOk ⟨cs,ps,bs⟩ = false) /\ (y = false -> okv = true /\ ∀ q',q = q' + 1 -> ∀ (h : q' < bs.length),ltB bs[q'].nm nm = true) /\ Below wr.heap.size wr wx)
      case first =>
        cases okv
        · have HV : Hid _ := shelf_no_book ⟨cs,ps,bs⟩ q hltb HBO.out
          refine wp_region_of (by kernel_rfl) (by kernel_rfl) ?_
          repeat (go_big_quiet_step ((first | (go_at_call 58;exact calls_of (H52 _)) | rfl)))
          refine wpQuiet_nil ?_;intro w5 hw5;obtain ⟨⟨wx,cx⟩,hwx⟩ := hw5;have b5 : Below wr.heap.size wr w5 := by rw [hwx];exact cx
          clear hwx cx wx
          go_wp2_with fail
          go_meet
          exact ⟨true,rfl,fun _ => HV.out,(fun h => by cases h),b5⟩
        · rcases Nat.eq_zero_or_pos q with hq0 | hqp
          · have j2 : decide (0 < q) = false := decide_eq_false (by omega)
            have HQ0 : Hid (q = 0) := hq0;clear hq0;refine wp_region_of (by kernel_rfl) (by kernel_rfl) ?_
            repeat (go_big_quiet_step ((first | (go_at_call 58;exact calls_of (H52 _)) | rfl)))
            refine wpQuiet_nil ?_;intro w5 hw5;obtain ⟨⟨wx,cx⟩,hwx⟩ := hw5;have b5 : Below wr.heap.size wr w5 := by rw [hwx];exact cx
            clear hwx cx wx
            go_wp2_with fail
            go_meet
            exact ⟨false,rfl,(fun h => by cases h),(fun _ => ⟨by first | rfl | trivial,fun q' h => by have := HQ0.out;omega⟩),b5⟩
          · obtain ⟨q',hqq⟩ : ∃ q',q = q' + 1 := ⟨q - 1,by omega⟩
            have HQQ : Hid (q = q' + 1) := hqq;obtain ⟨hl2,cp⟩ := HPREV.out q' hqq;have cP := BelowOf.cell cp lg
            obtain ⟨pn,hpn⟩ : ∃ x,bs[q'].nm = x := ⟨_,rfl⟩
            have HPN : Hid (bs[q'].nm = pn) := hpn;rw [hpn] at cP;have hw1 : IntKind.i64.wrap ((q : Int) - 1) = q' := by rw [IntKind.wrap_i64];omega
            have hw2 : (q : Int) - 1 = q' := by omega
            have hw3 : IntKind.i64.wrap (q' : Int) = q' := by rw [IntKind.wrap_i64];omega
            have j0 : (0 : Int) <= (q' : Int) := by omega
            have j1 : (q' : Int) < (bks.length : Int) := by omega
            have j2 : decide (0 < q) = true := decide_eq_true (by omega);have HGT : Hid (ltB pn nm = !(ltB nm pn || (nm.toList == pn.toList))) := ltB_gt pn nm
            obtain ⟨ly,hly⟩ : ∃ y,Op.bytesLess nm.toList pn.toList = y := ⟨_,rfl⟩
            obtain ⟨ey,hey⟩ : ∃ y,(nm.toList == pn.toList) = y := ⟨_,rfl⟩
            have HLY : Hid (ltB nm pn = ly /\ (nm.toList == pn.toList) = ey) := ⟨hly,hey⟩
            clear hpn cp hqq hqp;refine wp_region_of (by kernel_rfl) (by kernel_rfl) ?_
            repeat (go_big_quiet_step ((first | (go_at_call 58;exact calls_of (H52 _)) | rfl)))
            refine wpQuiet_nil ?_;intro w5 hw5;obtain ⟨⟨wx,cx⟩,hwx⟩ := hw5;have b5 : Below wr.heap.size wr w5 := by rw [hwx];exact cx
            clear hwx cx wx
            go_wp2_with fail
            go_meet
            refine ⟨(ly || ey),rfl,fun h => ?_,fun h => ⟨by first | rfl | trivial,fun q'' e hh => ?_⟩,b5⟩
            · have hf : ltB pn nm = false := by rw [HGT.out,HLY.out.1,HLY.out.2,h];rfl
              have hq1 := HQQ.out;subst hq1;exact shelf_no_order ⟨cs,ps,bs⟩ q' hltb (by simp only;rw [HPN.out,HBN.out.1];exact hf)
            · obtain rfl : q'' = q' := by have := HQQ.out;omega
              rw [HPN.out,HGT.out,HLY.out.1,HLY.out.2,h];rfl
      case rest =>
        obtain ⟨y,rfl,hy1,hy2,b5⟩ := hcut;have kc := (b5.block _ lq).trans kq;have dc := bw_call dq b5;have ownc := owns_below own b5;have pB := at_cell kc 2;have c2' := c2 ⟨wc,b5⟩;simp only at c2';have rmc := rm.of hb.size ⟨wc,b5⟩;simp only at rmc;have hbc := bw_call hb b5;clear c0 c1 c2 c3 c4 cB H52 hne HPREV own;cases y
        · obtain ⟨hokv,hord⟩ := hy2 rfl
          have HORD : Hid _ := hord;have hok2 : bookOk nm sz rs ep = true := HOK.out.trans hokv;have HMP : Hid (mapOk rs = true) := (book_parts (b := ⟨nm,sz,rs,fx,ep⟩) hok2).2.2.2.1;have HBQ : Hid (bs[q].ok = true) := HBO.out.trans hokv;clear hy1 hy2 hord hok2 hokv HOK HBO
          go_wp2_with fail
          clear pB c2';refine (l5Of_any _ rs _ HMP.out rmc).mono ?_;rintro e w6 ⟨v',rfl,own6,hnn,b6⟩;have HPI : Hid (∀ p ∈ (pages rs).filter (fun p => decide (0 <= p)),0 <= p /\ p <= 23) := fun p hp => pagesOf_in rs HMP.out p (by rw [pagesOf,if_pos HMP.out];exact hp)
          have HCN : Hid (∀ k : Nat,(((pages rs).filter (fun p => decide (0 <= p))).count (k : Int) : Int) = bs[q].cnt (k : Int)) := fun k => by
            have := pagesOf_cnt bs[q] HBQ.out k;rw [HBN.out.2,pagesOf,if_pos HMP.out] at this;exact this
          have hLl : ((pages rs).filter (fun p => decide (0 <= p))).length <= 16 := by
            have := List.length_filter_le (fun p => decide (0 <= p)) (pages rs);rw [pages_length] at this;exact this
          generalize (pages rs).filter (fun p => decide (0 <= p)) = L at *
          obtain ⟨g6,cap6,hv6⟩ : ∃ g6 cap6,v' = .slice (some ⟨g6,0,none⟩) L.length cap6 := by
            rcases own6.2 with ⟨e,_⟩ | ⟨g6,cap6,_,e,_⟩
            · exact absurd e hnn
            · exact ⟨g6,cap6,e⟩
          subst hv6;have hg6 := own6.lt g6 rfl;have own7 := owns_below ownc b6;have hlc := (ownc.lt w1.heap.size rfl).2;have hne6 : ¬ g6 = w1.heap.size := by omega
          have hb7 := bw_call hbc b6;have hcl := own6.cellAt;have HCL : Hid (∀ j,j < L.length -> w6.cell? ⟨g6,j,none⟩ = some (.int .i64 (L.getD j 0))) := fun j hj => (hcl j (by omega)).trans (getD_some L j hj)
          have hgl : g6 < w6.heap.size := hg6.2;clear hcl own6 hnn b6 ownc hbc rmc kc dc b5
          go_wp2_with fail
          go_loopw [6] (fun i wr2 => ∃ j : Nat,j <= L.length /\ i = .int .i64 j /\ wr2.ownsRow w1.heap.size 2 1 (.slice (some ⟨w1.heap.size,0,none⟩) 24 24) 24 ((row24 (fun k => cntAll (bs.take q) (k : Int) + ((L.take j).count (k : Int) : Int))).map (Value.int .i64)) /\ Upto w1.heap.size w6 wr2) (fun i _ => L.length - (intOf i).toNat)
          case atStart =>
            refine ⟨0,Nat.zero_le _,rfl,?_,Upto.refl _ _⟩;rw [row24_congr _ (fun k => cntAll (bs.take q) (k : Int)) (fun k hk => by simp)];exact own7
          case round =>
            obtain ⟨j,hj,rfl,own,u⟩ := hrel;by_cases hlt2 : j < L.length
            · have hpj := HPI.out (L.getD j 0) (by rw [getD_of L j hlt2];exact List.getElem_mem hlt2)
              have cj := (u.cell (p := ⟨g6,j,none⟩) hgl hne6).trans (HCL.out j hlt2)
              have HCT : Hid (∀ k : Nat,((L.take (j + 1)).count (k : Int) : Int) = ((L.take j).count (k : Int) : Int) + (if L.getD j 0 = (k : Int) then 1 else 0)) := fun k => by
                rw [count_take L j hlt2,getD_of L j hlt2]
              generalize L.getD j 0 = p at hpj cj HCT;obtain ⟨m,rfl⟩ := Int.eq_ofNat_of_zero_le hpj.1;obtain ⟨cn,fn,ow⟩ := row24_inc own m (by omega);have hx0 : 0 <= cntAll (bs.take q) (m : Int) := cntAll_nonneg _ _
              have hx1 : cntAll (bs.take q) (m : Int) <= 96 := by
                have h1 := cntAll_le (bs.take q) (m : Int);have h2 : (bs.take q).length <= q := by rw [List.length_take];omega
                omega
              have hx2 : (L.take j).count (m : Int) <= 16 := by
                have := List.count_le_length (a := (m : Int)) (l := L.take j);rw [List.length_take] at this
                omega
              have e1 : row24 (fun k => if m = k then cntAll (bs.take q) (m : Int) + ((L.take j).count (m : Int) : Int) + 1 else cntAll (bs.take q) (k : Int) + ((L.take j).count (k : Int) : Int)) = row24 (fun k => cntAll (bs.take q) (k : Int) + ((L.take (j + 1)).count (k : Int) : Int)) := row24_congr _ _ (fun k hk => by
                rw [HCT.out k];by_cases e : m = k
                · subst e;rw [if_pos rfl,if_pos rfl];omega
                · rw [if_neg e,if_neg (by omega)];omega)
              rw [e1] at ow;have HO : Hid _ := And.intro ow (u.setCell ⟨w1.heap.size,m,none⟩ (.inl rfl) (.int .i64 (cntAll (bs.take q) (m : Int) + ((L.take j).count (m : Int) : Int) + 1)));have hxx : 0 <= cntAll (bs.take q) (m : Int) + ((L.take j).count (m : Int) : Int) /\ cntAll (bs.take q) (m : Int) + ((L.take j).count (m : Int) : Int) <= 1000 := by omega
              generalize cntAll (bs.take q) (m : Int) + ((L.take j).count (m : Int) : Int) = x at cn HO hxx;have t0 : (0 : Int) <= (j : Int) := by omega
              have t1 : (j : Int) < (L.length : Int) := by omega
              have t2 : (0 : Int) <= (m : Int) := by omega
              have t3 : (m : Int) < 24 := by omega
              have t4 : m < 24 := by omega
              have hwx : IntKind.i64.wrap (x + 1) = x + 1 := by rw [IntKind.wrap_i64];omega
              clear ow e1 own HCT hx0 hx1 hx2
              go_wp2_with fail
              go_region
              all_goals
                go_wp2_with fail
                go_roundw
                case rel => exact ⟨j + 1,by omega,by go_num,owns_below HO.out.1 ((Below.refl _ _).drew),HO.out.2.drew⟩
                case measure => simp [intOf];omega
            · have hjl : j = L.length := by omega
              have e1 : row24 (fun k => cntAll (bs.take q) (k : Int) + ((L.take j).count (k : Int) : Int)) = row24 (fun k => cntAll (bs.take (q + 1)) (k : Int)) := row24_congr _ _ (fun k hk => by
                rw [hjl,List.take_length,HCN.out k,cntAll_take bs q hltb])
              rw [e1] at own;have HO : Hid _ := And.intro own (hb7.trans (u.toBelow hb7.size (Nat.le_refl _)))
              have HOK2 : Hid (∀ j (hj : j < bs.length),j < q + 1 -> bs[j].ok = true) := fun j hj h => by
                rcases Nat.lt_or_ge j q with z | z
                · exact HOKS.out j hj z
                · obtain rfl : j = q := by omega
                  exact HBQ.out
              have HSR2 : Hid (∀ j (hj : j + 1 < bs.length),j + 1 < q + 1 -> ltB (bs[j]'(by omega)).nm bs[j + 1].nm = true) := fun j hj h => by
                rcases Nat.lt_or_ge (j + 1) q with z | z
                · exact HSRT.out j hj z
                · obtain rfl : q = j + 1 := by omega
                  have := HORD.out j rfl (by omega)
                  rwa [<- HBN.out.1] at this
              clear own e1
              go_wp2_with fail
              go_roundw
              case rel => exact ⟨q + 1,by omega,by go_num,HOK2.out,HSR2.out,HO.out.1,HO.out.2⟩
              case measure => simp [intOf];omega
        · have HV : Hid _ := hy1 rfl
          clear hy1 hy2
          go_wp2_with fail
          go_ret;exact ⟨ret_bool (by rw [HBS.out];exact HV.out.symm),dc⟩
    · have hqe : q = bks.length := by omega
      have HOK3 : Hid (∀ j (hj : j < bs.length),bs[j].ok = true) := fun j hj => HOKS.out j hj (by have := HBL.out;omega)
      have HSR3 : Hid (∀ j (hj : j + 1 < bs.length),ltB (bs[j]'(by omega)).nm bs[j + 1].nm = true) := fun j hj => HSRT.out j hj (by have := HBL.out;omega)
      have htk : bs.take q = bs := List.take_of_length_le (by have := HBL.out;omega);rw [htk] at own;have pB := at_cell kq 2;have p0 := at_cell kq 0
      have s1q := (s1.below hb)
      obtain ⟨_,_,e1,-,c1,-⟩ := s1q;simp only [List.length_map] at e1;cases e1;have C1 : Hid _ := cell_i64 c1
      have HLN : Hid (∀ k,k < 24 -> wr.cell? ⟨w1.heap.size,k,none⟩ = some (.int .i64 (cntAll bs (k : Int)))) := fun k hk => by
        rw [own.cellAt k (by omega),getD_some _ k (by rw [row24_length];exact hk),row24_get _ k hk]
      have hql : ¬ (q : Int) < (bks.length : Int) := by omega
      have lw : w1.heap.size < wr.heap.size := (own.lt _ rfl).2;clear c1 htk HOKS HSRT own CB RM
      go_wp2_with fail
      clear pB;generalize wr = wq at *
      go_loopw [7] (fun i wr2 => ∃ k : Nat,k <= 24 /\ i = .int .i64 k /\ (∀ j,j < k -> ¬ ((j < cs.length /\ cntAll bs (j : Int) ≠ cs.getD j 0) \/ (cs.length <= j /\ 0 < cntAll bs (j : Int)))) /\ Below wq.heap.size wq wr2) (fun i _ => 24 - (intOf i).toNat)
      case atStart => exact ⟨0,Nat.zero_le _,rfl,fun j h => by omega,Below.refl _ _⟩
      case round =>
        obtain ⟨k,hk,rfl,hall,hb2⟩ := hrel;have HA : Hid _ := hall;have kk := (hb2.block _ lq).trans kq;have dk := bw_call dq hb2;have p0 := at_cell kk 0;clear hall;by_cases hlt2 : k < 24
        · have ck := (hb2.cell (p := ⟨w1.heap.size,k,none⟩) lw).trans (HLN.out k hlt2)
          have HN1 : Hid (¬ ((k < cs.length /\ cntAll bs (k : Int) ≠ cs.getD k 0) \/ (cs.length <= k /\ 0 < cntAll bs (k : Int))) -> ∀ j,j < k + 1 -> ¬ ((j < cs.length /\ cntAll bs (j : Int) ≠ cs.getD j 0) \/ (cs.length <= j /\ 0 < cntAll bs (j : Int)))) := fun h j hj => by
            rcases Nat.lt_or_ge j k with z | z
            · exact HA.out j z
            · obtain rfl : j = k := by omega
              exact h
          have HBAD : Hid (((k < cs.length /\ cntAll bs (k : Int) ≠ cs.getD k 0) \/ (cs.length <= k /\ 0 < cntAll bs (k : Int))) -> shelfOk ⟨cs,ps,bs⟩ = false) := fun h => shelf_no_count ⟨cs,ps,bs⟩ k hlt2 h
          have t0 : (0 : Int) <= (k : Int) := by omega
          have t1 : (k : Int) < 24 := by omega
          by_cases hkl : k < cs.length
          · obtain ⟨g,off,e,hg,cc⟩ := C1.out k hkl
            subst e;have ccw := (hb2.cell (p := ⟨g,off + k,none⟩) (Nat.lt_trans hg lw)).trans cc;have hd1 : decide (k < cs.length) = true := decide_eq_true hkl;have hd2 : decide (cs.length <= k) = false := decide_eq_false (by omega);have hd3 : (k : Int) < (cs.length : Int) := by omega
            by_cases heq : cntAll bs (k : Int) = cs.getD k 0
            · have HN2 : Hid _ := HN1.out (fun h => by rcases h with h | h;exact h.2 heq;omega)
              rw [<- heq] at ccw;generalize cntAll bs (k : Int) = x at ck ccw;clear HN1 HBAD HA C1 HLN heq cc
              go_wp2_with fail
              go_quiet (fail)
              go_wp2_with fail
              go_roundw
              case rel => exact ⟨k + 1,by omega,by go_num,HN2.out,⟨hb2.os,hb2.tape,hb2.output,hb2.size,hb2.block⟩⟩
              case measure => simp [intOf];omega
            · have HV : Hid _ := HBAD.out (.inl ⟨hkl,heq⟩)
              have hne1 : (cntAll bs (k : Int) == cs.getD k 0) = false := by rw [beq_eq_false_iff_ne];exact heq
              have hne2 : (cntAll bs (k : Int) != cs.getD k 0) = true := by rw [bne_iff_ne];exact heq
              generalize cntAll bs (k : Int) = x at ck hne1 hne2;generalize cs.getD k 0 = y at ccw hne1 hne2;clear HN1 HBAD HA C1 HLN heq cc
              go_wp2_with fail
              go_quiet (fail)
              go_wp2_with fail
              go_ret;exact ⟨ret_bool (by rw [HBS.out];exact HV.out.symm),⟨dk.os,dk.tape,dk.output,dk.size,dk.block⟩⟩
          · have hd1 : decide (k < cs.length) = false := decide_eq_false hkl
            have hd2 : decide (cs.length <= k) = true := decide_eq_true (by omega);have hd3 : ¬ (k : Int) < (cs.length : Int) := by omega
            by_cases hpos : 0 < cntAll bs (k : Int)
            · have HV : Hid _ := HBAD.out (.inr ⟨by omega,hpos⟩)
              generalize cntAll bs (k : Int) = x at ck hpos;clear HN1 HBAD HA C1 HLN
              go_wp2_with fail
              go_quiet (fail)
              go_wp2_with fail
              go_ret;exact ⟨ret_bool (by rw [HBS.out];exact HV.out.symm),⟨dk.os,dk.tape,dk.output,dk.size,dk.block⟩⟩
            · have HN2 : Hid _ := HN1.out (fun h => by rcases h with h | h;exact hkl h.1;exact hpos h.2)
              generalize cntAll bs (k : Int) = x at ck hpos;clear HN1 HBAD HA C1 HLN
              go_wp2_with fail
              go_quiet (fail)
              go_wp2_with fail
              go_roundw
              case rel => exact ⟨k + 1,by omega,by go_num,HN2.out,⟨hb2.os,hb2.tape,hb2.output,hb2.size,hb2.block⟩⟩
              case measure => simp [intOf];omega
        · have HV : Hid (shelfOk ⟨cs,ps,bs⟩ = true) := shelf_yes ⟨cs,ps,bs⟩ HPO.out (by simp only;have := HBL.out;omega) HOK3.out HSR3.out (fun j hj => HA.out j (by omega))
          clear HA C1 HLN
          go_wp2_with fail
          go_ret;exact ⟨ret_bool (by rw [HBS.out];exact HV.out.symm),dk⟩
end Go.Proofs.YtcefcglonooelaaGreatDoor
