import Derived.Deep.DeepCutAuto
import Derived.Laws.Cover1
import Derived.Lib.LazyBuf
import Derived.Test.YtcefcglonooelaaGreatDoorA04
import Derived.Test.YtcefcglonooelaaGreatDoorA06
import Derived.Test.YtcefcglonooelaaGreatDoorA09
import Derived.Test.YtcefcglonooelaaGreatDoorA25
import Derived.Test.YtcefcglonooelaaGreatDoorA26
import Derived.Test.YtcefcglonooelaaGreatDoorA33
import Derived.Test.YtcefcglonooelaaGreatDoorA35
namespace Go.Proofs.YtcefcglonooelaaGreatDoor
open Go.RowKit
set_option linter.unusedVariables false
set_option maxRecDepth 100000
theorem sizeOk_any (x : Int) (w : World) :
    Calls Tryz.prog 133 #[.int .i64 x] w fun e w' => e = .returned (.bool (decide (1 <= x) && decide (x <= 16))) /\ w' = w := by
  by_cases h : (1 : Int) <= x
  · go_enter Tryz.func133,Tryz.ntmps133
    go_wp2
    go_ret;exact ⟨ret_bool (by simp [h]),rfl⟩
  · go_enter Tryz.func133,Tryz.ntmps133
    go_wp2
    go_ret;exact ⟨ret_bool (by simp;omega),rfl⟩
theorem epochOk_any (x : Int) (w : World) :
    Calls Tryz.prog 136 #[.int .i64 x] w fun e w' => e = .returned (.bool (decide (0 <= x) && decide (x <= 1000))) /\ w' = w := by
  by_cases h : (0 : Int) <= x
  · go_enter Tryz.func136,Tryz.ntmps136
    go_wp2
    go_ret;exact ⟨ret_bool (by simp [h]),rfl⟩
  · go_enter Tryz.func136,Tryz.ntmps136
    go_wp2
    go_ret;exact ⟨ret_bool (by simp;omega),rfl⟩
set_option maxHeartbeats 800000 in
theorem implEndsBy_any (v : Value) (rs : List (Int × Int × Int)) (sz : Int) (w : World) (hok : mapOk rs = true) (r : ReadsR 3 runC w.heap.size w v rs) :
    Calls Tryz.prog 135 #[v,.int .i64 sz] w fun e w' => e = .returned (.bool (endsBy rs sz)) /\ Below w.heap.size w w' := by
  obtain ⟨o,cap,rfl,hm,hc,-⟩ := r;rcases Nat.eq_zero_or_pos rs.length with h0 | hpos
  · have HE : Hid (endsBy rs sz = true) := by rw [Hid,List.length_eq_zero_iff.1 h0];rfl
    rw [h0];clear hok hc h0 hm
    go_enter Tryz.func135,Tryz.ntmps135
    go_wp2_with fail
    go_ret;exact ⟨ret_bool HE.out.symm,Below.refl _ _⟩
  · obtain ⟨k,hk⟩ : ∃ k,rs.length = k + 1 := ⟨rs.length - 1,by omega⟩
    have hlt : k < rs.length := by omega
    obtain ⟨g,off,rfl,hg,a0,a1,a2⟩ := three_cells hc k hlt;have HE : Hid _ := endsBy_at rs sz k hk;have hin := map_in rs hok k hlt;generalize rs[k] = x at a0 a1 a2 HE hin;obtain ⟨f,c,p⟩ := x;simp only at a0 a1 a2 HE hin;have hw1 : IntKind.i64.wrap ((k : Int) + 1 - 1) = k := by unfold maxLen at hm;rw [IntKind.wrap_i64];omega
    have hw2 : (k : Int) + 1 - 1 = k := by omega
    have hw4 : IntKind.i64.wrap (k : Int) = k := by unfold maxLen at hm;rw [IntKind.wrap_i64];omega
    have hw3 : IntKind.i64.wrap (f + c) = f + c := by rw [IntKind.wrap_i64];omega
    have hi0 : (0 : Int) <= (k : Int) := by omega
    have hi1 : (k : Int) < (k : Int) + 1 := by omega
    have hz : ((k : Int) + 1 == 0) = false := by rw [beq_eq_false_iff_ne];omega
    rw [hk];clear hok hc hpos hin hk
    go_enter Tryz.func135,Tryz.ntmps135
    go_wp2_with fail
    go_ret;exact ⟨ret_bool (by rw [HE.out]),by go_grown⟩
set_option maxHeartbeats 1600000 in
theorem implBookOk_any (nm : ByteArray) (sz : Int) (m : Value) (rs : List (Int × Int × Int)) (fx : Bool) (ep : Int) (w : World) (hn : nm.size <= maxLen) (hfit : FitRuns rs) (r : ReadsR 3 runC w.heap.size w m rs) :
    Calls Tryz.prog 86 #[.agg #[.string nm,.int .i64 sz,m,.bool fx,.int .i64 ep]] w fun e w' => e = .returned (.bool (bookOk nm sz rs ep)) /\ Below w.heap.size w w' := by
  obtain ⟨o,cap,rfl⟩ := r.form;obtain ⟨W0,hW0,k0,d0,z0⟩ := box1 w #[.string nm,.int .i64 sz,.slice o rs.length cap,.bool fx,.int .i64 ep] 87;have r0 := (r.below d0).mono d0.size;have HW0 : Hid (W0 = _) := hW0;have p0 := at_cell k0 0;have p1 := at_cell k0 1;have p2 := at_cell k0 2;clear hW0 r
  go_enter Tryz.func86,Tryz.ntmps86
  go_wp2_with fail
  rw [<- HW0.out];clear HW0;refine (implName_any nm _ hn).mono ?_;rintro e w' ⟨rfl,rfl⟩;cases h1 : Nums.nameB nm.data.toList
  · have HV : Hid (bookOk nm sz rs ep = false) := by simp [Hid,bookOk,h1]
    clear h1 k0
    go_wp2_with fail
    go_ret;exact ⟨ret_bool HV.out.symm,d0⟩
  have H1 : Hid _ := h1;clear h1
  go_wp2_with fail
  refine (sizeOk_any sz _).mono ?_;rintro e w' ⟨rfl,rfl⟩;cases h2 : (decide (1 <= sz) && decide (sz <= 16))
  · have HV : Hid (bookOk nm sz rs ep = false) := by simp [Hid,bookOk,h2]
    clear h2 k0
    go_wp2_with fail
    go_ret;exact ⟨ret_bool HV.out.symm,d0⟩
  have H2 : Hid _ := h2;clear h2
  go_wp2_with fail
  refine (implMapOk_any _ rs _ hfit r0).mono ?_;rintro e w1 ⟨rfl,b1⟩;replace k0 := (b1.block _ (by omega)).trans k0;replace d0 := bw_call d0 b1;replace r0 := (r0.below b1).mono b1.size;have z1 := b1.size;clear p0 p1 p2 b1;cases h4 : mapOk rs
  · have HV : Hid (bookOk nm sz rs ep = false) := by simp [Hid,bookOk,h4]
    clear h4 k0 r0
    go_wp2_with fail
    go_ret;exact ⟨ret_bool HV.out.symm,d0⟩
  have p1 := at_cell k0 1;have p2 := at_cell k0 2;have H4 : Hid _ := h4;clear h4
  go_wp2_with fail
  clear p1 p2;refine (implEndsBy_any _ rs sz _ H4.out r0).mono ?_;rintro e w2 ⟨rfl,b1⟩;replace k0 := (b1.block _ (by omega)).trans k0;replace d0 := bw_call d0 b1;clear b1 r0;cases h5 : endsBy rs sz
  · have HV : Hid (bookOk nm sz rs ep = false) := by simp [Hid,bookOk,h5]
    clear h5 k0
    go_wp2_with fail
    go_ret;exact ⟨ret_bool HV.out.symm,d0⟩
  have HV : Hid (bookOk nm sz rs ep = (decide (0 <= ep) && decide (ep <= 1000))) := by rw [Hid,bookOk,H1.out,H2.out,H4.out,h5];simp
  have p4 := at_cell k0 4;clear h5 H1 H2 H4 k0
  go_wp2_with fail
  refine (epochOk_any ep _).mono ?_;rintro e w' ⟨rfl,rfl⟩
  go_wp2_with fail
  go_ret;exact ⟨ret_bool HV.out.symm,d0⟩
end Go.Proofs.YtcefcglonooelaaGreatDoor
namespace Go.Proofs.YtcefcglonooelaaGreatDoor
open Go.RowKit
set_option linter.unusedVariables false
def rowB (bs : List Pb) : Bool := decide (bs.length <= 6) && bs.all Pb.ok && sortedB (bs.map Pb.nm)
theorem shelfOk_parts (s : Sf) : shelfOk s = (poolOk s.cs s.ps && rowB s.bs && countsOk s.cs s.bs) := by simp [shelfOk,rowB,Bool.and_assoc]
theorem row_no_many {bs : List Pb} (h : 6 < bs.length) : rowB bs = false := by
  have h6 : ¬ bs.length <= 6 := by omega
  simp [rowB,h6]
theorem row_no_book {bs : List Pb} (i : Nat) (hi : i < bs.length) (h : bs[i].ok = false) : rowB bs = false := by
  have : bs.all Pb.ok = false := by rw [List.all_eq_false];exact ⟨bs[i],List.getElem_mem hi,by rw [h];decide⟩
  simp [rowB,this]
theorem row_no_order {bs : List Pb} (i : Nat) (hi : i + 1 < bs.length) (h : ltB bs[i].nm bs[i + 1].nm = false) : rowB bs = false := by
  have : sortedB (bs.map Pb.nm) = false := sorted_not _ i (by simpa using hi) (by simpa using h);simp [rowB,this]
theorem row_yes {bs : List Pb} (h2 : bs.length <= 6) (h3 : ∀ (i : Nat) (hi : i < bs.length),bs[i].ok = true) (h4 : ∀ (i : Nat) (hi : i + 1 < bs.length),ltB (bs[i]'(by omega)).nm bs[i + 1].nm = true) : rowB bs = true := by
  have h5 : sortedB (bs.map Pb.nm) = true := sorted_adj _ (fun j h1 => by simpa using h4 j (by simpa using h1));have h6 : bs.all Pb.ok = true := List.all_eq_true.2 (fun b hb => by obtain ⟨j,hj,rfl⟩ := List.getElem_of_mem hb;exact h3 j hj);simp [rowB,h2,h5,h6]
theorem row_parts {bs : List Pb} (h : rowB bs = true) : bs.length <= 6 /\ ∀ (i : Nat) (hi : i < bs.length),bs[i].ok = true := by
  simp only [rowB,Bool.and_eq_true,decide_eq_true_eq] at h;exact ⟨h.1.1,fun i hi => List.all_eq_true.1 h.1.2 _ (List.getElem_mem hi)⟩
set_option maxRecDepth 100000 in
set_option maxHeartbeats 6400000 in
theorem rowOk_any (vb : Value) (bks : List Bk) (w : World) (hn : ∀ b ∈ bks,b.nm.size <= maxLen) (hf : ∀ b ∈ bks,FitRuns b.rs) (rb : ReadsB w.heap.size w vb bks) :
    Calls Tryz.prog 45 #[vb] w fun e w' => e = .returned (.bool (rowB (bks.map Bk.pb))) /\ Below w.heap.size w w' := by
  have HN : Hid _ := hn;have HF : Hid _ := hf;obtain ⟨ob,cpb,f3,mb,cb,-⟩ := rb.row;subst f3;unfold maxLen at mb;have CB : Hid _ := five_cells cb;have RM : Hid _ := rb.maps;clear hn hf rb cb
  obtain ⟨bs,hbs⟩ : ∃ bs,bks.map Bk.pb = bs := ⟨_,rfl⟩
  have hbl : bs.length = bks.length := by rw [<- hbs,List.length_map]
  have HAT : Hid (∀ (i : Nat) (h1 : i < bks.length) (h2 : i < bs.length),bs[i] = bks[i].pb) := fun i h1 h2 => by subst hbs;simp
  rw [hbs];have HBL : Hid (bs.length = bks.length) := hbl;clear hbs hbl;by_cases hmany : 6 < bks.length
  · have HV : Hid (rowB bs = false) := row_no_many (by rw [HBL.out];exact hmany)
    have h6 : (6 : Int) < (bks.length : Int) := by omega
    go_enter Tryz.func45,Tryz.ntmps45
    go_wp2_with fail
    go_ret;exact ⟨ret_bool HV.out.symm,Below.refl _ _⟩
  have h6 : ¬ (6 : Int) < (bks.length : Int) := by omega
  go_enter Tryz.func45,Tryz.ntmps45
  go_wp2_with fail
  go_loopw [10] (fun i wr => ∃ q : Nat,q <= bks.length /\ i = .int .i64 q /\ (∀ j (hj : j < bs.length),j < q -> bs[j].ok = true) /\ (∀ j (hj : j + 1 < bs.length),j + 1 < q -> ltB (bs[j]'(by omega)).nm bs[j + 1].nm = true) /\ Below w.heap.size w wr) (fun i _ => bks.length - (intOf i).toNat)
  case atStart => exact ⟨0,Nat.zero_le _,rfl,fun j _ h => by omega,fun j _ h => by omega,Below.refl _ _⟩
  case round =>
    obtain ⟨q,hq,rfl,hoks,hsrt,hb⟩ := hrel;have HOKS : Hid _ := hoks;have HSRT : Hid _ := hsrt;clear hoks hsrt;by_cases hlt : q < bks.length
    · obtain ⟨g,off,rfl,hg,a0,a1,a2,a3,a4⟩ := CB.out q hlt
      have hltb : q < bs.length := by have := HBL.out;omega
      have rm := (RM.out bks[q] (List.getElem_mem hlt)).below hb;have hnm := HN.out bks[q] (List.getElem_mem hlt);have hfr := HF.out bks[q] (List.getElem_mem hlt);have hat := HAT.out q hlt hltb
      have HPREV : Hid (∀ q',q = q' + 1 -> ∃ (h : q' < bs.length),wr.cell? ⟨g,off + q' * 5,none⟩ = some (.string bs[q'].nm)) := fun q' e => by
        have hl' : q' < bks.length := by omega
        obtain ⟨g',off',e',hg',c0,-⟩ := CB.out q' hl';cases e';have hl2 : q' < bs.length := by have := HBL.out;omega
        refine ⟨hl2,?_⟩;rw [HAT.out q' hl' hl2];exact (hb.cell (p := ⟨g,off + q' * 5,none⟩) hg).trans c0
      obtain ⟨x,hx⟩ : ∃ x,bks[q] = x := ⟨_,rfl⟩
      rw [hx] at a0 a1 a2 a3 a4 rm hnm hat hfr;clear hx;obtain ⟨nm,sz,m,rs,fx,ep⟩ := x;simp only at a0 a1 a2 a3 a4 rm hnm hfr;obtain ⟨o',cap',hm'⟩ := rm.form;subst hm';have lg : g < wr.heap.size := Nat.lt_of_lt_of_le hg hb.size;replace a0 := (hb.cell (p := ⟨g,off + q * 5,none⟩) hg).trans a0;replace a1 := (hb.cell (p := ⟨g,off + q * 5 + 1,none⟩) hg).trans a1;replace a2 := (hb.cell (p := ⟨g,off + q * 5 + 2,none⟩) hg).trans a2;replace a3 := (hb.cell (p := ⟨g,off + q * 5 + 3,none⟩) hg).trans a3;replace a4 := (hb.cell (p := ⟨g,off + q * 5 + 4,none⟩) hg).trans a4;obtain ⟨WB,hWB,kB,dB,zB⟩ := box1 wr #[.string nm,.int .i64 sz,.slice o' rs.length cap',.bool fx,.int .i64 ep] 87;have HWB : Hid (WB = _) := hWB;have lB : wr.heap.size < WB.heap.size := heap_lt kB;have lg2 : g < WB.heap.size := by omega
      have hbB := bw_call hb dB
      obtain ⟨okv,hok⟩ : ∃ x,bookOk nm sz rs ep = x := ⟨_,rfl⟩
      have HBO : Hid (bs[q].ok = okv) := by rw [Hid,hat];exact hok
      have HBN : Hid (bs[q].nm = nm) := by rw [Hid,hat];rfl
      have rmB := rm.below ((dB.mono hb.size));have HOK : Hid (bookOk nm sz rs ep = okv) := hok
      have HP2 : Hid (∀ q',q = q' + 1 -> ∃ (h : q' < bs.length),WB.cell? ⟨g,off + q' * 5,none⟩ = some (.string bs[q'].nm)) := fun q' e => by
        obtain ⟨h,c⟩ := HPREV.out q' e;exact ⟨h,(dB.cell (p := ⟨g,off + q' * 5,none⟩) lg).trans c⟩
      have i0 : (0 : Int) <= (q : Int) := by omega
      have i1 : (q : Int) < (bks.length : Int) := by omega
      clear hok hat hWB zB rm HPREV
      go_upto_region 6 with fail
      rw [<- HWB.out];have hne := BelowOf.any WB;have c0 := BelowOf.cell (v := .string nm) (at_cell kB 0) lB;have c1 := BelowOf.cell (v := .int .i64 sz) (at_cell kB 1) lB;have c2 := BelowOf.cell (v := .slice o' rs.length cap') (at_cell kB 2) lB;have c3 := BelowOf.cell (v := .bool fx) (at_cell kB 3) lB;have c4 := BelowOf.cell (v := .int .i64 ep) (at_cell kB 4) lB;have HBK : ∀ z : BelowOf WB,Calls Tryz.prog 86 #[.agg #[.string nm,.int .i64 sz,.slice o' rs.length cap',.bool fx,.int .i64 ep]] z.w' fun e w' => e = .returned (.bool okv) /\ Below z.w'.heap.size z.w' w' := fun z => by have h := implBookOk_any nm sz _ rs fx ep z.w' hnm hfr (rmB.of hbB.size z);rwa [HOK.out] at h
      clear a0 a1 a2 a3 a4 HWB dB
      go_cut [32] (fun v wx => ∃ y : Bool,v = .bool y /\ (y = true -> rowB bs = false) /\ (y = false -> okv = true /\ ∀ q',q = q' + 1 -> ∀ (h : q' < bs.length),ltB bs[q'].nm nm = true) /\ Below WB.heap.size WB wx)
      case first =>
        cases okv
        · have HV : Hid _ := row_no_book q hltb HBO.out
          refine wp_region_of (by kernel_rfl) (by kernel_rfl) ?_
          repeat (go_big_quiet_step ((first | (go_at_call 86;exact calls_of (HBK _)) | rfl)))
          refine wpQuiet_nil ?_;intro w5 hw5;obtain ⟨⟨wx,cx⟩,hwx⟩ := hw5;have b5 : Below WB.heap.size WB w5 := by rw [hwx];exact cx
          clear hwx cx wx
          go_wp2_with fail
          go_meet
          exact ⟨true,rfl,fun _ => HV.out,(fun h => by cases h),b5⟩
        · rcases Nat.eq_zero_or_pos q with hq0 | hqp
          · have j2 : decide (0 < q) = false := decide_eq_false (by omega)
            have HQ0 : Hid (q = 0) := hq0;clear hq0;refine wp_region_of (by kernel_rfl) (by kernel_rfl) ?_
            repeat (go_big_quiet_step ((first | (go_at_call 86;exact calls_of (HBK _)) | rfl)))
            refine wpQuiet_nil ?_;intro w5 hw5;obtain ⟨⟨wx,cx⟩,hwx⟩ := hw5;have b5 : Below WB.heap.size WB w5 := by rw [hwx];exact cx
            clear hwx cx wx
            go_wp2_with fail
            go_meet
            exact ⟨false,rfl,(fun h => by cases h),(fun _ => ⟨by first | rfl | trivial,fun q' h => by have := HQ0.out;omega⟩),b5⟩
          · obtain ⟨q',hqq⟩ : ∃ q',q = q' + 1 := ⟨q - 1,by omega⟩
            have HQQ : Hid (q = q' + 1) := hqq;obtain ⟨hl2,cp⟩ := HP2.out q' hqq;have cP := BelowOf.cell cp lg2
            obtain ⟨pn,hpn⟩ : ∃ x,bs[q'].nm = x := ⟨_,rfl⟩
            have HPN : Hid (bs[q'].nm = pn) := hpn;rw [hpn] at cP;have hw1 : IntKind.i64.wrap ((q : Int) - 1) = q' := by rw [IntKind.wrap_i64];omega
            have hw2 : (q : Int) - 1 = q' := by omega
            have hw3 : IntKind.i64.wrap (q' : Int) = q' := by rw [IntKind.wrap_i64];omega
            have j0 : (0 : Int) <= (q' : Int) := by omega
            have j1 : (q' : Int) < (bks.length : Int) := by omega
            have j2 : decide (0 < q) = true := decide_eq_true (by omega)
            obtain ⟨ly,hly⟩ : ∃ y,Op.bytesLess pn.toList nm.toList = y := ⟨_,rfl⟩
            have HLY : Hid (ltB pn nm = ly) := hly;clear hpn cp hqq hqp;refine wp_region_of (by kernel_rfl) (by kernel_rfl) ?_
            repeat (go_big_quiet_step ((first | (go_at_call 86;exact calls_of (HBK _)) | rfl)))
            refine wpQuiet_nil ?_;intro w5 hw5;obtain ⟨⟨wx,cx⟩,hwx⟩ := hw5;have b5 : Below WB.heap.size WB w5 := by rw [hwx];exact cx
            clear hwx cx wx
            go_wp2_with fail
            go_meet
            refine ⟨(!ly),rfl,fun h => ?_,fun h => ⟨by first | rfl | trivial,fun q'' e hh => ?_⟩,b5⟩
            · have hf : ltB pn nm = false := by rw [HLY.out];simpa using h
              have hq1 := HQQ.out;subst hq1;exact row_no_order q' hltb (by rw [HPN.out,HBN.out];exact hf)
            · obtain rfl : q'' = q' := by have := HQQ.out;omega
              rw [HPN.out,HLY.out];simpa using h
      case rest =>
        obtain ⟨y,rfl,hy1,hy2,b5⟩ := hcut;have hbc := bw_call hbB b5;clear c0 c1 c2 c3 c4 HBK hne HP2 b5 kB;cases y
        · obtain ⟨hokv,hord⟩ := hy2 rfl
          have HOK2 : Hid (∀ j (hj : j < bs.length),j < q + 1 -> bs[j].ok = true) := fun j hj h => by
            rcases Nat.lt_or_ge j q with z | z
            · exact HOKS.out j hj z
            · obtain rfl : j = q := by omega
              rw [HBO.out];exact hokv
          have HSR2 : Hid (∀ j (hj : j + 1 < bs.length),j + 1 < q + 1 -> ltB (bs[j]'(by omega)).nm bs[j + 1].nm = true) := fun j hj h => by
            rcases Nat.lt_or_ge (j + 1) q with z | z
            · exact HSRT.out j hj z
            · obtain rfl : q = j + 1 := by omega
              have := hord j rfl (by omega)
              rwa [<- HBN.out] at this
          clear hy1 hy2 hord hokv
          go_wp2_with fail
          go_roundw
          case rel => exact ⟨q + 1,by omega,by go_num,HOK2.out,HSR2.out,hbc⟩
          case measure => simp [intOf];omega
        · have HV : Hid _ := hy1 rfl
          clear hy1 hy2
          go_wp2_with fail
          go_ret;exact ⟨ret_bool HV.out.symm,hbc⟩
    · have HV : Hid (rowB bs = true) := row_yes (by have := HBL.out;omega) (fun j hj => HOKS.out j hj (by have := HBL.out;omega)) (fun j hj => HSRT.out j hj (by have := HBL.out;omega))
      have hql : ¬ (q : Int) < (bks.length : Int) := by omega
      clear HOKS HSRT
      go_wp2_with fail
      go_ret;exact ⟨ret_bool HV.out.symm,hb⟩
end Go.Proofs.YtcefcglonooelaaGreatDoor
namespace Go.Proofs.YtcefcglonooelaaGreatDoor
open Go.RowKit
set_option linter.unusedVariables false
set_option maxRecDepth 100000
theorem made_roomK (n : Nat) (hn : n <= 1048576) : ∃ M : Array Value,(∀ W : World,(Instr.makeSlice 40 (.int .i64 0) (.int .i64 (n : Int))).run Tryz.prog W = .ok (.slice (some ⟨W.heap.size,0,none⟩) 0 n) (W.alloc (.cells M 87))) /\
    ∀ (W : World) (base : Nat),base <= W.heap.size -> (W.alloc (.cells M 87)).ownsRow base 87 5 (.slice (some ⟨W.heap.size,0,none⟩) 0 n) 0 [] := by
  obtain ⟨i0,hi,hz0,hz1,hz2⟩ := info_parts Tryz.infoBook;refine ⟨madeCells (Value.agg #[.string ByteArray.empty,.int .i64 0,.slice none 0 0,.bool false,.int .i64 0]).cells (n * 5),fun W => ?_,fun W base hb => ?_⟩
  · have h := run_make (P := Tryz.prog) W 40 87 i0 (.agg #[.string ByteArray.empty,.int .i64 0,.slice none 0 0,.bool false,.int .i64 0]) Tryz.underlying40 hi hz0 .i64 .i64 0 (n : Int) (by omega) (by omega) (by rw [hz2];omega) (by omega)
    rw [hz1,Int.toNat_natCast] at h
    simpa using h
  · exact ⟨rfl,.inr ⟨_,n,_,rfl,hb,heap_alloc_new W _,Nat.zero_le _,by unfold maxLen;omega,by rw [size_madeCells],by simp⟩⟩
theorem new_fiveK (w : World) (x0 x1 x2 x3 x4 : Value) (t : TypeId) : ∀ (j : Nat) (u : Value),[x0,x1,x2,x3,x4][j]? = some u -> (w.alloc (.cells #[x0,x1,x2,x3,x4] t)).cell? ((⟨w.heap.size,0,none⟩ : Addr).add j) = some u := fun j u hj => by
  rw [addr_add,at_cell (heap_alloc_new w _)]
  simpa using hj
def Pk.bk (b : Pk) : Bk := ⟨b.nm,b.sz,.slice none 0 0,[],b.fx,b.ep⟩
theorem bk_pb (bs : List Pk) : (bs.map Pk.bk).map Bk.pb = (bs.map Pk.pv).map Pv.pb := by rw [List.map_map,List.map_map];rfl
set_option maxHeartbeats 3200000 in
theorem withoutValues_any (vb : Value) (bks : List Pk) (w : World) (hb : bks.length <= 6) (r : ReadsK w.heap.size w vb bks) :
    Calls Tryz.prog 46 #[vb] w fun e w' => ∃ v : Value,e = .returned v /\ w'.ownsRow w.heap.size 87 5 v (bks.map Pk.bk).length ((bks.map Pk.bk).flatMap bookC) /\ Below w.heap.size w w' := by
  obtain ⟨i0,hi,hz0,hz1,hz2⟩ := info_parts Tryz.infoBook
  obtain ⟨L,hL⟩ : ∃ L,bks.map Pk.bk = L := ⟨_,rfl⟩
  have HLL : Hid (L.length = bks.length) := by rw [<- hL];exact List.length_map _
  have HLA : Hid (∀ j (hj : j < bks.length),(L.take (j + 1)).flatMap bookC = (L.take j).flatMap bookC ++ bookC bks[j].bk) := fun j hj => by
    have hj' : j < L.length := by rw [<- hL];simpa using hj
    rw [List.take_succ_eq_append_getElem hj',List.flatMap_append];have e : L[j] = bks[j].bk := by subst hL;simp
    rw [e];simp
  rw [hL];clear hL;obtain ⟨M,hmk,hown⟩ := made_roomK bks.length (by omega);have own0 := hown w w.heap.size (Nat.le_refl _);have bd0 : Below w.heap.size w (w.alloc (.cells M 87)) := bw_alloc (Below.refl _ _);have RM : Hid _ := r.maps;obtain ⟨ob,kb,rfl,mb,cb,-⟩ := r.row;have HC : Hid _ := five_cellsK cb;clear hown r cb;unfold maxLen at mb
  go_enter Tryz.func46,Tryz.ntmps46
  go_wp2_with fail
  clear hmk;generalize w.alloc (.cells M 87) = W1 at *
  go_loopw [3,11] (fun q i wr => ∃ (j g cp : Nat),j <= bks.length /\ i = .int .i64 j /\ q = .slice (some ⟨g,0,none⟩) j cp /\ wr.ownsRow w.heap.size 87 5 (.slice (some ⟨g,0,none⟩) j cp) j ((L.take j).flatMap bookC) /\ Below w.heap.size w wr) (fun _ i _ => bks.length - (intOf i).toNat)
  case atStart => exact ⟨0,_,_,Nat.zero_le _,rfl,rfl,own0,bd0⟩
  case round =>
    clear own0 bd0;obtain ⟨j,g,cp,hj,rfl,rfl,own,hbw⟩ := hrel;by_cases hlt : j < bks.length
    · obtain ⟨g0,off,rfl,hg,a0,a1,a2,a3,a4⟩ := HC.out j hlt
      have rm := (RM.out bks[j] (List.getElem_mem hlt))
      have HPT : Hid ((L.take (j + 1)).flatMap bookC = (L.take j).flatMap bookC ++ bookC bks[j].bk) := HLA.out j hlt
      obtain ⟨x,hx⟩ : ∃ x,bks[j] = x := ⟨_,rfl⟩
      rw [hx] at a0 a1 a2 a3 a4 rm HPT;clear hx;obtain ⟨nm,sz,m,rs,fx,ep⟩ := x;simp only at a0 a1 a2 a3 a4 rm;obtain ⟨o',cap',hm'⟩ := rm.form;subst hm';replace a0 := (hbw.cell (p := ⟨g0,off + j * 5,none⟩) hg).trans a0;replace a1 := (hbw.cell (p := ⟨g0,off + j * 5 + 1,none⟩) hg).trans a1;replace a2 := (hbw.cell (p := ⟨g0,off + j * 5 + 2,none⟩) hg).trans a2;replace a3 := (hbw.cell (p := ⟨g0,off + j * 5 + 3,none⟩) hg).trans a3;replace a4 := (hbw.cell (p := ⟨g0,off + j * 5 + 4,none⟩) hg).trans a4;obtain ⟨WB,hWB,kB,dB,zB⟩ := box1 wr #[.string nm,.int .i64 sz,.slice o' rs.length cap',.bool fx,.int .i64 ep] 51;have HWB : Hid (WB = _) := hWB;have hbB := bw_call hbw dB;have ownB := owns_below own dB;have hbs := hbB.size;have hgl := fun q hq => (ownB.lt q hq).1
      have i0' : (0 : Int) <= (j : Int) := by omega
      have i1' : (j : Int) < (bks.length : Int) := by omega
      have b0 := at_cell kB 0;have b1 := at_cell kB 1;have b3 := at_cell kB 3;have b4 := at_cell kB 4;clear hWB zB rm own hbw dB
      go_upto_region 5 with fail
      rw [<- HWB.out];clear HWB a0 a1 a2 a3 a4
      go_wp2_with (at_builtin;refine wpList_append_own _ rfl _ _ 40 rfl w.heap.size 87 i0 (.agg #[.string ByteArray.empty,.int .i64 0,.slice none 0 0,.bool false,.int .i64 0]) 5 64 Tryz.underlying40 hi hz0 hz1 hz2 rfl (by decide) _ _ _ rfl (ownB.alloc _) ⟨WB.heap.size,0,none⟩ 1 1 (bookC ⟨nm,sz,.slice none 0 0,[],fx,ep⟩) rfl rfl ?c1 ?c2 ?c3 ?c4 ?c5 ?_)
      case c1 => exact new_fiveK WB _ _ _ _ _ 87
      case c2 => intro u hu;simp [bookC] at hu;rcases hu with rfl | rfl | rfl | rfl | rfl <;> rfl
      case c3 => unfold maxLen;omega
      case c4 => omega
      case c5 => simp;omega
      intro v'' w6 hown' hgrow' hnil';have own6 : w6.ownsRow w.heap.size 87 5 v'' (j + 1) ((L.take (j + 1)).flatMap bookC) := by rw [HPT.out];exact hown'
      obtain ⟨g',cp',hv'⟩ : ∃ g' cp',v'' = .slice (some ⟨g',0,none⟩) (j + 1) cp' := owns_form own6;subst hv';have hb6 : Below w.heap.size w w6 := (bw_alloc hbB).grown hgrow' (by simp;omega) hgl;have HO : Hid _ := And.intro own6 hb6;clear hown' hgrow' hnil' own6 hb6 ownB hbB kB b0 b1 b3 b4 hgl
      go_wp2_with fail
      go_roundw
      case rel => exact ⟨j + 1,_,_,by omega,by go_num,rfl,HO.out⟩
      case measure => simp [intOf];omega
    · have HO : Hid (wr.ownsRow w.heap.size 87 5 (.slice (some ⟨g,0,none⟩) j cp) L.length (L.flatMap bookC)) := by
        have h1 := HLL.out;have h2 : L.take j = L := List.take_of_length_le (by omega);have h3 : L.length = j := by omega
        rw [Hid,h3];rw [h2] at own;exact own
      have i1' : ¬ (j : Int) < (bks.length : Int) := by omega
      clear own
      go_wp2_with fail
      go_ret;exact ⟨_,rfl,HO.out,hbw⟩
set_option maxHeartbeats 1600000 in
theorem valuesOk_any (nm : ByteArray) (sz : Int) (m : Value) (rs : List Int) (fx : Bool) (ep : Int) (w : World) (r : ReadsR 1 intC w.heap.size w m rs) :
    Calls Tryz.prog 47 #[.agg #[.string nm,.int .i64 sz,m,.bool fx,.int .i64 ep]] w fun e w' => e = .returned (.bool (rightVs ⟨nm,sz,rs,fx,ep⟩)) /\ Below w.heap.size w w' := by
  obtain ⟨o,cap,rfl,hm,hc,-⟩ := r;have C1 : Hid _ := one_cellK hc;obtain ⟨W0,hW0,k0,d0,z0⟩ := box1 w #[.string nm,.int .i64 sz,.slice o rs.length cap,.bool fx,.int .i64 ep] 51;have HW0 : Hid (W0 = _) := hW0;unfold maxLen at hm;have p1 := at_cell k0 1;have p2 := at_cell k0 2;have hwl : IntKind.i64.wrap (rs.length : Int) = (rs.length : Int) := by rw [IntKind.wrap_i64];omega
  rw [hW0] at p1 p2;clear hW0 hc k0;by_cases hs : (rs.length : Int) = sz
  · have hs1 : ((rs.length : Int) != sz) = false := by rw [bne_eq_false_iff_eq];exact hs
    have HSZ : Hid ((rs.length : Int) = sz) := hs;clear hs
    go_enter Tryz.func47,Tryz.ntmps47
    go_wp2_with fail
    rw [<- HW0.out];clear HW0 p1 p2
    go_loopw [14] (fun i wr => ∃ k : Nat,k <= rs.length /\ i = .int .i64 k /\ (∀ j (hj : j < rs.length),j < k -> (decide (0 <= rs[j]) && decide (rs[j] <= 999)) = true) /\ wr = W0) (fun i _ => rs.length - (intOf i).toNat)
    case atStart => exact ⟨0,Nat.zero_le _,rfl,fun j _ h => by omega,rfl⟩
    case round =>
      obtain ⟨k,hk,rfl,hall,rfl⟩ := hrel;have HA : Hid _ := hall;clear hall;by_cases hlt : k < rs.length
      · obtain ⟨g,off,rfl,hg,c0⟩ := C1.out k hlt
        replace c0 := (d0.cell (p := ⟨g,off + k,none⟩) hg).trans c0
        obtain ⟨x,hx⟩ : ∃ x,rs[k] = x := ⟨_,rfl⟩
        have HX : Hid (rs[k] = x) := hx;rw [hx] at c0;clear hx;have i0 : (0 : Int) <= (k : Int) := by omega
        have i1 : (k : Int) < (rs.length : Int) := by omega
        go_wp2_with fail
        refine (valueOk_any x _).mono ?_;rintro e w' ⟨rfl,rfl⟩;cases hv : (decide (0 <= x) && decide (x <= 999))
        · have HV : Hid (rightVs ⟨nm,sz,rs,fx,ep⟩ = false) := by
            have := values_no k hlt (by rw [HX.out];exact hv);simp [Hid,rightVs,this]
          clear hv c0
          go_wp2_with fail
          go_ret;exact ⟨ret_bool HV.out.symm,d0⟩
        · have HN : Hid (∀ j (hj : j < rs.length),j < k + 1 -> (decide (0 <= rs[j]) && decide (rs[j] <= 999)) = true) := fun j hj hjk => by
            rcases Nat.lt_or_ge j k with y | y
            · exact HA.out j hj y
            · obtain rfl : j = k := by omega
              rw [HX.out];exact hv
          clear hv c0
          go_wp2_with fail
          go_roundw
          case rel => exact ⟨k + 1,by omega,by go_num,HN.out,trivial⟩
          case measure => simp [intOf];omega
      · have HV : Hid (rightVs ⟨nm,sz,rs,fx,ep⟩ = true) := by
          have h1 := values_yes (vs := rs) (fun j hj => HA.out j hj (by omega));simp [Hid,rightVs,h1,HSZ.out]
        have i1 : ¬ (k : Int) < (rs.length : Int) := by omega
        clear HA C1
        go_wp2_with fail
        go_ret;exact ⟨ret_bool HV.out.symm,d0⟩
  · have hs1 : ((rs.length : Int) != sz) = true := by rw [bne_iff_ne];exact hs
    have HV : Hid (rightVs ⟨nm,sz,rs,fx,ep⟩ = false) := by simp [Hid,rightVs,hs]
    go_enter Tryz.func47,Tryz.ntmps47
    go_wp2_with fail
    rw [<- HW0.out];clear HW0 p1 p2;go_ret;exact ⟨ret_bool HV.out.symm,d0⟩
set_option maxHeartbeats 3200000 in
theorem implPlainsOk_any (vb : Value) (bks : List Pk) (w : World) (hn : ∀ b ∈ bks,b.nm.size <= maxLen) (r : ReadsK w.heap.size w vb bks) :
    Calls Tryz.prog 13 #[vb] w fun e w' => e = .returned (.bool (plainsOk (bks.map Pk.pv))) /\ Below w.heap.size w w' := by
  have HN : Hid _ := hn;have RM : Hid _ := r.maps;obtain ⟨ob,kb,f3,mb,cb,-⟩ := id r.row;subst f3;unfold maxLen at mb;have HC : Hid _ := five_cellsK cb;clear hn cb;by_cases hmany : 6 < bks.length
  · have HV : Hid (plainsOk (bks.map Pk.pv) = false) := plains_no_many (by simpa using hmany)
    have h6 : (6 : Int) < (bks.length : Int) := by omega
    go_enter Tryz.func13,Tryz.ntmps13
    go_wp2_with fail
    go_ret;exact ⟨ret_bool HV.out.symm,Below.refl _ _⟩
  have h6 : ¬ (6 : Int) < (bks.length : Int) := by omega
  go_enter Tryz.func13,Tryz.ntmps13
  go_wp2_with fail
  refine (withoutValues_any _ bks _ (by omega) r).mono ?_;rintro e w1 ⟨v1,rfl,ow1,b1⟩
  have rb1 : ReadsB w1.heap.size w1 v1 (bks.map Pk.bk) := ⟨ReadsR.of_own bookC_len ow1,fun b hb => by
    obtain ⟨x,_,rfl⟩ := List.mem_map.1 hb
    exact ReadsR.nil _ _ _ _⟩
  have hnb : ∀ b ∈ bks.map Pk.bk,b.nm.size <= maxLen := fun b hb => by
    obtain ⟨x,hx,rfl⟩ := List.mem_map.1 hb;exact HN.out x hx
  have hfb : ∀ b ∈ bks.map Pk.bk,FitRuns b.rs := fun b hb => by
    obtain ⟨x,_,rfl⟩ := List.mem_map.1 hb;exact fun r hr => by cases hr
  go_wp2_with fail
  refine (rowOk_any v1 (bks.map Pk.bk) _ hnb hfb rb1).mono ?_;rw [bk_pb];rintro e w2 ⟨rfl,b2⟩;have d2 := bw_call b1 b2
  have HBY : Hid _ := plainsOk_by (bks.map Pk.pv)
  have hle : ((bks.map Pk.pv).map Pv.pb).length <= 6 := by simp;omega
  have hle2 : (bks.map Pk.pv).length <= 6 := by simp;omega
  cases hrow : rowB ((bks.map Pk.pv).map Pv.pb)
  · have HV : Hid (plainsOk (bks.map Pk.pv) = false) := by
      rw [Hid,HBY.out];rw [rowB,decide_eq_true hle,Bool.true_and] at hrow;rw [hrow];simp
    clear hrow ow1 rb1 hnb hfb b1 b2
    go_wp2_with fail
    go_ret;exact ⟨ret_bool HV.out.symm,d2⟩
  · have HR : Hid (plainsOk (bks.map Pk.pv) = (bks.map Pk.pv).all rightVs) := by
      rw [Hid,HBY.out];rw [rowB,decide_eq_true hle,Bool.true_and] at hrow;rw [hrow,decide_eq_true hle2];simp
    clear hrow ow1 rb1 hnb hfb b1 b2 r hle hle2
    go_wp2_with fail
    go_loopw [16] (fun i wr => ∃ q : Nat,q <= bks.length /\ i = .int .i64 q /\ (∀ j (hj : j < bks.length),j < q -> rightVs bks[j].pv = true) /\ Below w.heap.size w wr) (fun i _ => bks.length - (intOf i).toNat)
    case atStart => exact ⟨0,Nat.zero_le _,rfl,fun j _ h => by omega,d2⟩
    case round =>
      clear d2;obtain ⟨q,hq,rfl,hall,hb⟩ := hrel;have HA : Hid _ := hall;clear hall;by_cases hlt : q < bks.length
      · obtain ⟨g,off,rfl,hg,a0,a1,a2,a3,a4⟩ := HC.out q hlt
        have rm := ((RM.out bks[q] (List.getElem_mem hlt)).below hb).mono hb.size
        obtain ⟨x,hx⟩ : ∃ x,bks[q] = x := ⟨_,rfl⟩
        have HX : Hid (bks[q] = x) := hx;rw [hx] at a0 a1 a2 a3 a4 rm;clear hx;obtain ⟨nm,sz,m,rs,fx,ep⟩ := x;simp only at a0 a1 a2 a3 a4 rm;obtain ⟨o',cap',hm'⟩ := rm.form;subst hm';replace a0 := (hb.cell (p := ⟨g,off + q * 5,none⟩) hg).trans a0;replace a1 := (hb.cell (p := ⟨g,off + q * 5 + 1,none⟩) hg).trans a1;replace a2 := (hb.cell (p := ⟨g,off + q * 5 + 2,none⟩) hg).trans a2;replace a3 := (hb.cell (p := ⟨g,off + q * 5 + 3,none⟩) hg).trans a3;replace a4 := (hb.cell (p := ⟨g,off + q * 5 + 4,none⟩) hg).trans a4;obtain ⟨WB,hWB,kB,dB,zB⟩ := box1 wr #[.string nm,.int .i64 sz,.slice o' rs.length cap',.bool fx,.int .i64 ep] 51;have HWB : Hid (WB = _) := hWB;have rmB := (rm.below dB).mono dB.size;have hbB := bw_call hb dB;have i0 : (0 : Int) <= (q : Int) := by omega
        have i1 : (q : Int) < (bks.length : Int) := by omega
        have c0 := at_cell kB 0;have c1 := at_cell kB 1;have c2 := at_cell kB 2;have c3 := at_cell kB 3;have c4 := at_cell kB 4;clear hWB zB rm dB hb
        go_upto_region 6 with fail
        rw [<- HWB.out];clear HWB a0 a1 a2 a3 a4
        go_wp2_with fail
        refine (valuesOk_any nm sz _ rs fx ep _ rmB).mono ?_;rintro e w3 ⟨rfl,b3⟩;have hb3 := bw_call hbB b3;clear rmB hbB b3 kB c0 c1 c2 c3 c4;cases hv : rightVs ⟨nm,sz,rs,fx,ep⟩
        · have HV : Hid (plainsOk (bks.map Pk.pv) = false) := by
            rw [Hid,HR.out,List.all_eq_false];exact ⟨bks[q].pv,List.mem_map_of_mem (List.getElem_mem hlt),by rw [HX.out];show ¬ rightVs ⟨nm,sz,rs,fx,ep⟩ = true;rw [hv];decide⟩
          clear hv
          go_wp2_with fail
          go_ret;exact ⟨ret_bool HV.out.symm,hb3⟩
        · have HO : Hid (∀ j (hj : j < bks.length),j < q + 1 -> rightVs bks[j].pv = true) := fun j hj hjq => by
            rcases Nat.lt_or_ge j q with y | y
            · exact HA.out j hj y
            · obtain rfl : j = q := by omega
              rw [HX.out];exact hv
          clear hv
          go_wp2_with fail
          go_roundw
          case rel => exact ⟨q + 1,by omega,by go_num,HO.out,hb3⟩
          case measure => simp [intOf];omega
      · have HV : Hid (plainsOk (bks.map Pk.pv) = true) := by
          rw [Hid,HR.out,List.all_eq_true];intro p hp;obtain ⟨x,hx,rfl⟩ := List.mem_map.1 hp;obtain ⟨j,hj,rfl⟩ := List.getElem_of_mem hx;exact HA.out j hj (by omega)
        have i1 : ¬ (q : Int) < (bks.length : Int) := by omega
        clear HA HC RM
        go_wp2_with fail
        go_ret;exact ⟨ret_bool HV.out.symm,hb⟩
end Go.Proofs.YtcefcglonooelaaGreatDoor
