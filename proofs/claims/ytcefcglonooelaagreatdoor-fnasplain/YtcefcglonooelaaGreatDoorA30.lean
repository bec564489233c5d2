import Derived.Test.YtcefcglonooelaaGreatDoorA07
import Derived.Test.YtcefcglonooelaaGreatDoorA08
import Derived.Test.YtcefcglonooelaaGreatDoorA09
import Derived.Test.YtcefcglonooelaaGreatDoorA29
namespace Go.Proofs.YtcefcglonooelaaGreatDoor
open Go.RowKit
set_option linter.unusedVariables false
theorem ret_val {a b : Value} (h : a = b) : Ending.returned a = .returned b := by rw [h]
theorem refusI_1 (bs : List Pb) (nm ot : ByteArray) (at_ va ep : Int) : refused bs ⟨1,nm,ot,at_,va,ep⟩ = if 0 <= findP bs nm then 3 else if bs.length = 6 then 7 else 0 := by
  have h1 : kOther 1 = false := rfl;simp [refused,h1]
theorem refusI_oth (k : Int) (hk : k = 4 \/ k = 5) (bs : List Pb) (nm ot : ByteArray) (at_ va ep : Int) : refused bs ⟨k,nm,ot,at_,va,ep⟩ = if findP bs nm < 0 then 2 else if 0 <= findP bs ot then 3 else if bs.length = 6 then 7 else 0 := by
  rcases hk with rfl | rfl <;> simp [refused,kOther,kEpoch,kAt]
theorem refusI_in (k : Int) (hk : k = 2 \/ k = 3) (bs : List Pb) (nm ot : ByteArray) (at_ va ep : Int) : refused bs ⟨k,nm,ot,at_,va,ep⟩ = if findP bs nm < 0 then 2 else if ep < (bookAt bs (findP bs nm)).ep then 4 else if (bookAt bs (findP bs nm)).fx = true then 5 else if (bookAt bs (findP bs nm)).sz <= at_ then 6 else 0 := by
  rcases hk with rfl | rfl <;> simp [refused,kOther,kEpoch,kAt]
theorem refusI_6 (bs : List Pb) (nm ot : ByteArray) (at_ va ep : Int) : refused bs ⟨6,nm,ot,at_,va,ep⟩ = if findP bs nm < 0 then 2 else if ep < (bookAt bs (findP bs nm)).ep then 4 else 0 := by
  simp [refused,kOther,kEpoch,kAt]
theorem refusI_7 (bs : List Pb) (nm ot : ByteArray) (at_ va ep : Int) : refused bs ⟨7,nm,ot,at_,va,ep⟩ = if findP bs nm < 0 then 2 else if ep < (bookAt bs (findP bs nm)).ep then 4 else if (bookAt bs (findP bs nm)).fx = true then 5 else 0 := by
  simp [refused,kOther,kEpoch,kAt]
theorem refusI_8 (bs : List Pb) (nm ot : ByteArray) (at_ va ep : Int) : refused bs ⟨8,nm,ot,at_,va,ep⟩ = if findP bs nm < 0 then 2 else if (bookAt bs (findP bs nm)).ep = 1000 then 8 else 0 := by
  simp [refused,kOther,kEpoch,kAt]
theorem refusI_9 (bs : List Pb) (nm ot : ByteArray) (at_ va ep : Int) : refused bs ⟨9,nm,ot,at_,va,ep⟩ = if findP bs nm < 0 then 2 else if (bookAt bs (findP bs nm)).sz <= at_ then 6 else 0 := by
  simp [refused,kOther,kEpoch,kAt]
theorem findB_P (bks : List Bk) (n : ByteArray) : findB bks n = findP (bks.map Bk.pb) n := by
  rw [findB,findP,List.map_map]
  rfl
theorem findB_lt (bks : List Bk) (n : ByteArray) : findB bks n < bks.length := by
  rcases find_range n (bks.map Bk.nm) 0 with h | ⟨h1,h2,h3⟩
  · rw [findB,h];omega
  · rw [List.length_map] at h2;rw [findB];omega
theorem bkAt_pb (bks : List Bk) (F : Int) (h : ¬ F < 0) : bookAt (bks.map Bk.pb) F = (bkAt bks F).pb := by
  rw [bookAt,bkAt,if_neg h,List.getD_eq_getElem?_getD,List.getD_eq_getElem?_getD,List.getElem?_map];cases bks[F.toNat]? <;> rfl
theorem bkAt_form (bks : List Bk) (F : Int) (hms : ∀ b ∈ bks,∃ o k cap,b.m = .slice o k cap) : ∃ o k cap,(bkAt bks F).m = .slice o k cap := by
  rw [bkAt]
  split
  · exact ⟨none,0,0,rfl⟩
  · rw [List.getD_eq_getElem?_getD]
    cases h : bks[F.toNat]? with
    | none => exact ⟨none,0,0,rfl⟩
    | some x => exact hms x (List.mem_of_getElem? h)
set_option maxRecDepth 100000 in
set_option maxHeartbeats 6400000 in
theorem refby_1 (vb : Value) (bks : List Bk) (nm ot : ByteArray) (at_ va ep : Int) (w : World) (ad : Nat -> Addr) (hv : Vars w ad) (hn : nm.size <= maxLen) (ho : ot.size <= maxLen) (fa : I64 at_) (fv : I64 va) (fe : I64 ep) (hlen : bks.length <= 6) (hep : ∀ b ∈ bks,b.ep <= 1000) (hms : ∀ b ∈ bks,∃ o k cap,b.m = .slice o k cap) (r : ReadsR 5 bookC w.heap.size w vb bks) (hok : opOk ⟨1,nm,ot,at_,va,ep⟩ = true) :
    Calls Tryz.prog 73 #[vb,.agg #[.int .i64 1,.string nm,.string ot,.int .i64 at_,.int .i64 va,.int .i64 ep]] w fun e w' => e = .returned (refErr ad (refused (bks.map Bk.pb) ⟨1,nm,ot,at_,va,ep⟩)) /\ Below w.heap.size w w' := by
  obtain ⟨ob,cpb,hvb,mb,-,-⟩ := id r;subst hvb;unfold maxLen at mb;obtain ⟨W0,hW0,k0,d0,z0⟩ := box1 w #[.int .i64 1,.string nm,.string ot,.int .i64 at_,.int .i64 va,.int .i64 ep] 26;have HW0 : Hid (W0 = _) := hW0;have HMS : Hid _ := hms;have r0 := (r.below d0).mono d0.size;have hv0 := hv.below d0;have p1 := at_cell k0 1;have hFl := findB_lt bks nm
  obtain ⟨F,hF⟩ : ∃ F,findB bks nm = F := ⟨_,rfl⟩
  have HFB : Hid (findB bks nm = F) := hF;have HFP : Hid (findP (bks.map Bk.pb) nm = F) := by rw [Hid,<- findB_P];exact hF
  have HBK : Hid (0 <= F -> bookAt (bks.map Bk.pb) F = (bkAt bks F).pb) := fun h => bkAt_pb bks F (by omega)
  have hform := bkAt_form bks F hms;rw [hF] at hFl;clear hW0 z0 r hv hms hF
  go_enter Tryz.func73,Tryz.ntmps73
  go_wp2_with fail
  rw [<- HW0.out];clear HW0 p1;refine (implFindBook_any _ bks nm _ HMS.out r0).mono ?_;rw [HFB.out];rintro e w1 ⟨rfl,b1⟩;replace k0 := (b1.block _ (heap_lt k0)).trans k0;replace d0 := bw_call d0 b1;replace r0 := (r0.below b1).mono b1.size;replace hv0 := hv0.below b1;clear b1
  go_wp2_with fail
  refine (bookAt_any _ bks F _ hFl HMS.out r0).mono ?_;rintro e w2 ⟨rfl,b2⟩;replace k0 := (b2.block _ (heap_lt k0)).trans k0;replace d0 := bw_call d0 b2;replace r0 := (r0.below b2).mono b2.size;replace hv0 := hv0.below b2;clear b2
  obtain ⟨x,hx⟩ : ∃ x,bkAt bks F = x := ⟨_,rfl⟩
  rw [hx] at HBK hform ⊢;clear hx;obtain ⟨xn,xs,xm,xr,xf,xe⟩ := x;obtain ⟨ox,kx,cx,hxm⟩ := hform;simp only at hxm;subst hxm;simp only [Bk.pb] at HBK;obtain ⟨W3,hW3,k6,d3,z3⟩ := box1 w2 #[.string xn,.int .i64 xs,.slice ox kx cx,.bool xf,.int .i64 xe] 87;have HW3 : Hid (W3 = _) := hW3;replace k0 := (d3.block _ (heap_lt k0)).trans k0;replace d0 := bw_call d0 d3;replace r0 := (r0.below d3).mono d3.size;replace hv0 := hv0.below d3;obtain ⟨p0,p1,p2,p3,p4,p5⟩ := c6 k0;rw [hW3] at p0 p1 p2 p3 p4 p5;clear hW3 z3 d3;simp only [bookC]
  go_wp2_with fail
  rw [<- HW3.out];clear HW3 p0 p1 p2 p3 p4 p5;refine (implOpOk_any 1 nm ot at_ va ep _ hn ho (by unfold I64;omega) fa fv fe).mono ?_;rw [hok];rintro e w4 ⟨rfl,b4⟩;replace k0 := (b4.block _ (heap_lt k0)).trans k0;replace k6 := (b4.block _ (heap_lt k6)).trans k6;replace d0 := bw_call d0 b4;replace r0 := (r0.below b4).mono b4.size;replace hv0 := hv0.below b4;clear b4;have HLN : Hid ((bks.map Bk.pb).length = bks.length) := List.length_map _
  obtain ⟨bs,hbs⟩ : ∃ bs,bks.map Bk.pb = bs := ⟨_,rfl⟩
  have HBS : Hid (bks.map Bk.pb = bs) := hbs;rw [hbs] at HFP HBK HLN;clear hbs;have M : ∀ w : World,Calls Tryz.prog 114 #[.int .i64 1] w fun e w' => e = .returned (.bool true) /\ w' = w := fun w => makes_any 1 (by omega) w
  have E : ∀ w : World,Calls Tryz.prog 116 #[.int .i64 1] w fun e w' => e = .returned (.bool false) /\ w' = w := fun w => heedsEpoch_any 1 (by omega) w
  have C : ∀ w : World,Calls Tryz.prog 117 #[.int .i64 1] w fun e w' => e = .returned (.bool false) /\ w' = w := fun w => changesInside_any 1 (by omega) w
  have P : ∀ w : World,Calls Tryz.prog 118 #[.int .i64 1] w fun e w' => e = .returned (.bool false) /\ w' = w := fun w => asksPlace_any 1 (by omega) w
  obtain ⟨p0,p1,p2,p3,p4,p5⟩ := c6 k0;have q1 := at_cell k6 1;have q3 := at_cell k6 3;have q4 := at_cell k6 4;have g3 := hv0.cell 3 (by decide);have g7 := hv0.cell 7 (by decide)
  go_wp2_with (first | (go_at_call 114;refine (M _).mono ?_;rintro e w' ⟨rfl,rfl⟩) | (go_at_call 116;refine (E _).mono ?_;rintro e w' ⟨rfl,rfl⟩) | (go_at_call 117;refine (C _).mono ?_;rintro e w' ⟨rfl,rfl⟩) | (go_at_call 118;refine (P _).mono ?_;rintro e w' ⟨rfl,rfl⟩))
  refine (madeName_make nm ot at_ va ep _).mono ?_;rintro e w5 ⟨rfl,b5⟩;replace k0 := (b5.block _ (heap_lt k0)).trans k0;replace k6 := (b5.block _ (heap_lt k6)).trans k6;replace d0 := bw_call d0 b5;replace r0 := (r0.below b5).mono b5.size;replace hv0 := hv0.below b5;clear p0 p1 p2 p3 p4 p5 q1 q3 q4 g3 g7 b5
  go_wp2_with fail
  refine (implFindBook_any _ bks nm _ HMS.out r0).mono ?_;have HNP : Hid (findP bs nm = F) := HFP.out;rw [HFB.out]
  obtain ⟨G,hG⟩ : ∃ G,F = G := ⟨_,rfl⟩
  subst hG;rintro e w6 ⟨rfl,b6⟩;replace k0 := (b6.block _ (heap_lt k0)).trans k0;replace k6 := (b6.block _ (heap_lt k6)).trans k6;replace d0 := bw_call d0 b6;replace r0 := (r0.below b6).mono b6.size;replace hv0 := hv0.below b6;clear b6;obtain ⟨p0,p1,p2,p3,p4,p5⟩ := c6 k0;have q1 := at_cell k6 1;have q3 := at_cell k6 3;have q4 := at_cell k6 4;have g3 := hv0.cell 3 (by decide);have g7 := hv0.cell 7 (by decide);by_cases h3 : 0 <= F
  · skip
    have HV : Hid (refErr ad (refused bs ⟨1,nm,ot,at_,va,ep⟩) = .iface 106 (.agg #[.int .i64 3,.iface 228 (.pointer (some (ad 3)))])) := by
      have e1 : refused bs ⟨1,nm,ot,at_,va,ep⟩ = 3 := by rw [refusI_1,HFP.out,if_pos (by omega)]
      rw [e1];rfl
    clear HFP HFB HBK
    go_wp2_with (first | (go_at_call 114;refine (M _).mono ?_;rintro e w' ⟨rfl,rfl⟩) | (go_at_call 116;refine (E _).mono ?_;rintro e w' ⟨rfl,rfl⟩) | (go_at_call 117;refine (C _).mono ?_;rintro e w' ⟨rfl,rfl⟩) | (go_at_call 118;refine (P _).mono ?_;rintro e w' ⟨rfl,rfl⟩))
    go_ret;exact ⟨ret_val (by rw [HBS.out];exact HV.out.symm),d0⟩
  by_cases h7 : (6 : Int) <= (bks.length : Int)
  · skip
    have hl6 : bks.length = 6 := by omega
    have HV : Hid (refErr ad (refused bs ⟨1,nm,ot,at_,va,ep⟩) = .iface 106 (.agg #[.int .i64 7,.iface 228 (.pointer (some (ad 7)))])) := by
      have e1 : refused bs ⟨1,nm,ot,at_,va,ep⟩ = 7 := by rw [refusI_1,HFP.out,if_neg (by omega),HLN.out,if_pos (by omega)]
      rw [e1];rfl
    clear HFP HFB HBK
    go_wp2_with (first | (go_at_call 114;refine (M _).mono ?_;rintro e w' ⟨rfl,rfl⟩) | (go_at_call 116;refine (E _).mono ?_;rintro e w' ⟨rfl,rfl⟩) | (go_at_call 117;refine (C _).mono ?_;rintro e w' ⟨rfl,rfl⟩) | (go_at_call 118;refine (P _).mono ?_;rintro e w' ⟨rfl,rfl⟩))
    go_ret;exact ⟨ret_val (by rw [HBS.out];exact HV.out.symm),d0⟩
  have hl6 : ¬ bks.length = 6 := by omega
  have HV : Hid (refErr ad (refused bs ⟨1,nm,ot,at_,va,ep⟩) = .nilIface) := by
    have e1 : refused bs ⟨1,nm,ot,at_,va,ep⟩ = 0 := by rw [refusI_1,HFP.out,if_neg (by omega),HLN.out,if_neg (by omega)]
    rw [e1];rfl
  clear HFP HFB HBK
  go_wp2_with (first | (go_at_call 114;refine (M _).mono ?_;rintro e w' ⟨rfl,rfl⟩) | (go_at_call 116;refine (E _).mono ?_;rintro e w' ⟨rfl,rfl⟩) | (go_at_call 117;refine (C _).mono ?_;rintro e w' ⟨rfl,rfl⟩) | (go_at_call 118;refine (P _).mono ?_;rintro e w' ⟨rfl,rfl⟩))
  go_ret;exact ⟨ret_val (by rw [HBS.out];exact HV.out.symm),d0⟩
set_option maxRecDepth 100000 in
set_option maxHeartbeats 6400000 in
theorem refby_2 (vb : Value) (bks : List Bk) (nm ot : ByteArray) (at_ va ep : Int) (w : World) (ad : Nat -> Addr) (hv : Vars w ad) (hn : nm.size <= maxLen) (ho : ot.size <= maxLen) (fa : I64 at_) (fv : I64 va) (fe : I64 ep) (hlen : bks.length <= 6) (hep : ∀ b ∈ bks,b.ep <= 1000) (hms : ∀ b ∈ bks,∃ o k cap,b.m = .slice o k cap) (r : ReadsR 5 bookC w.heap.size w vb bks) (hok : opOk ⟨2,nm,ot,at_,va,ep⟩ = true) :
    Calls Tryz.prog 73 #[vb,.agg #[.int .i64 2,.string nm,.string ot,.int .i64 at_,.int .i64 va,.int .i64 ep]] w fun e w' => e = .returned (refErr ad (refused (bks.map Bk.pb) ⟨2,nm,ot,at_,va,ep⟩)) /\ Below w.heap.size w w' := by
  obtain ⟨ob,cpb,hvb,mb,-,-⟩ := id r;subst hvb;unfold maxLen at mb;obtain ⟨W0,hW0,k0,d0,z0⟩ := box1 w #[.int .i64 2,.string nm,.string ot,.int .i64 at_,.int .i64 va,.int .i64 ep] 26;have HW0 : Hid (W0 = _) := hW0;have HMS : Hid _ := hms;have r0 := (r.below d0).mono d0.size;have hv0 := hv.below d0;have p1 := at_cell k0 1;have hFl := findB_lt bks nm
  obtain ⟨F,hF⟩ : ∃ F,findB bks nm = F := ⟨_,rfl⟩
  have HFB : Hid (findB bks nm = F) := hF;have HFP : Hid (findP (bks.map Bk.pb) nm = F) := by rw [Hid,<- findB_P];exact hF
  have HBK : Hid (0 <= F -> bookAt (bks.map Bk.pb) F = (bkAt bks F).pb) := fun h => bkAt_pb bks F (by omega)
  have hform := bkAt_form bks F hms;rw [hF] at hFl;clear hW0 z0 r hv hms hF
  go_enter Tryz.func73,Tryz.ntmps73
  go_wp2_with fail
  rw [<- HW0.out];clear HW0 p1;refine (implFindBook_any _ bks nm _ HMS.out r0).mono ?_;rw [HFB.out];rintro e w1 ⟨rfl,b1⟩;replace k0 := (b1.block _ (heap_lt k0)).trans k0;replace d0 := bw_call d0 b1;replace r0 := (r0.below b1).mono b1.size;replace hv0 := hv0.below b1;clear b1
  go_wp2_with fail
  refine (bookAt_any _ bks F _ hFl HMS.out r0).mono ?_;rintro e w2 ⟨rfl,b2⟩;replace k0 := (b2.block _ (heap_lt k0)).trans k0;replace d0 := bw_call d0 b2;replace r0 := (r0.below b2).mono b2.size;replace hv0 := hv0.below b2;clear b2
  obtain ⟨x,hx⟩ : ∃ x,bkAt bks F = x := ⟨_,rfl⟩
  rw [hx] at HBK hform ⊢;clear hx;obtain ⟨xn,xs,xm,xr,xf,xe⟩ := x;obtain ⟨ox,kx,cx,hxm⟩ := hform;simp only at hxm;subst hxm;simp only [Bk.pb] at HBK;obtain ⟨W3,hW3,k6,d3,z3⟩ := box1 w2 #[.string xn,.int .i64 xs,.slice ox kx cx,.bool xf,.int .i64 xe] 87;have HW3 : Hid (W3 = _) := hW3;replace k0 := (d3.block _ (heap_lt k0)).trans k0;replace d0 := bw_call d0 d3;replace r0 := (r0.below d3).mono d3.size;replace hv0 := hv0.below d3;obtain ⟨p0,p1,p2,p3,p4,p5⟩ := c6 k0;rw [hW3] at p0 p1 p2 p3 p4 p5;clear hW3 z3 d3;simp only [bookC]
  go_wp2_with fail
  rw [<- HW3.out];clear HW3 p0 p1 p2 p3 p4 p5;refine (implOpOk_any 2 nm ot at_ va ep _ hn ho (by unfold I64;omega) fa fv fe).mono ?_;rw [hok];rintro e w4 ⟨rfl,b4⟩;replace k0 := (b4.block _ (heap_lt k0)).trans k0;replace k6 := (b4.block _ (heap_lt k6)).trans k6;replace d0 := bw_call d0 b4;replace r0 := (r0.below b4).mono b4.size;replace hv0 := hv0.below b4;clear b4;have HLN : Hid ((bks.map Bk.pb).length = bks.length) := List.length_map _
  obtain ⟨bs,hbs⟩ : ∃ bs,bks.map Bk.pb = bs := ⟨_,rfl⟩
  have HBS : Hid (bks.map Bk.pb = bs) := hbs;rw [hbs] at HFP HBK HLN;clear hbs;have M : ∀ w : World,Calls Tryz.prog 114 #[.int .i64 2] w fun e w' => e = .returned (.bool false) /\ w' = w := fun w => makes_any 2 (by omega) w
  have E : ∀ w : World,Calls Tryz.prog 116 #[.int .i64 2] w fun e w' => e = .returned (.bool true) /\ w' = w := fun w => heedsEpoch_any 2 (by omega) w
  have C : ∀ w : World,Calls Tryz.prog 117 #[.int .i64 2] w fun e w' => e = .returned (.bool true) /\ w' = w := fun w => changesInside_any 2 (by omega) w
  have P : ∀ w : World,Calls Tryz.prog 118 #[.int .i64 2] w fun e w' => e = .returned (.bool true) /\ w' = w := fun w => asksPlace_any 2 (by omega) w
  obtain ⟨p0,p1,p2,p3,p4,p5⟩ := c6 k0;have q1 := at_cell k6 1;have q3 := at_cell k6 3;have q4 := at_cell k6 4;have g2 := hv0.cell 2 (by decide);have g4 := hv0.cell 4 (by decide);have g5 := hv0.cell 5 (by decide);have g6 := hv0.cell 6 (by decide);by_cases h2 : F < 0
  · skip
    have HV : Hid (refErr ad (refused bs ⟨2,nm,ot,at_,va,ep⟩) = .iface 106 (.agg #[.int .i64 2,.iface 228 (.pointer (some (ad 2)))])) := by
      have e1 : refused bs ⟨2,nm,ot,at_,va,ep⟩ = 2 := by rw [refusI_in 2 (.inl rfl),HFP.out,if_pos (by omega)]
      rw [e1];rfl
    clear HFP HFB HBK
    go_wp2_with (first | (go_at_call 114;refine (M _).mono ?_;rintro e w' ⟨rfl,rfl⟩) | (go_at_call 116;refine (E _).mono ?_;rintro e w' ⟨rfl,rfl⟩) | (go_at_call 117;refine (C _).mono ?_;rintro e w' ⟨rfl,rfl⟩) | (go_at_call 118;refine (P _).mono ?_;rintro e w' ⟨rfl,rfl⟩))
    go_ret;exact ⟨ret_val (by rw [HBS.out];exact HV.out.symm),d0⟩
  by_cases h4 : ep < xe
  · skip
    have HV : Hid (refErr ad (refused bs ⟨2,nm,ot,at_,va,ep⟩) = .iface 106 (.agg #[.int .i64 4,.iface 228 (.pointer (some (ad 4)))])) := by
      have e1 : refused bs ⟨2,nm,ot,at_,va,ep⟩ = 4 := by rw [refusI_in 2 (.inl rfl),HFP.out,if_neg (by omega),HBK.out (by omega),if_pos (show ep < xe by omega)]
      rw [e1];rfl
    clear HFP HFB HBK
    go_wp2_with (first | (go_at_call 114;refine (M _).mono ?_;rintro e w' ⟨rfl,rfl⟩) | (go_at_call 116;refine (E _).mono ?_;rintro e w' ⟨rfl,rfl⟩) | (go_at_call 117;refine (C _).mono ?_;rintro e w' ⟨rfl,rfl⟩) | (go_at_call 118;refine (P _).mono ?_;rintro e w' ⟨rfl,rfl⟩))
    go_ret;exact ⟨ret_val (by rw [HBS.out];exact HV.out.symm),d0⟩
  cases xf
  case true =>
    have HV : Hid (refErr ad (refused bs ⟨2,nm,ot,at_,va,ep⟩) = .iface 106 (.agg #[.int .i64 5,.iface 228 (.pointer (some (ad 5)))])) := by
      have e1 : refused bs ⟨2,nm,ot,at_,va,ep⟩ = 5 := by rw [refusI_in 2 (.inl rfl),HFP.out,if_neg (by omega),HBK.out (by omega),if_neg (show ¬ ep < xe by omega),if_pos rfl]
      rw [e1];rfl
    clear HFP HFB HBK
    go_wp2_with (first | (go_at_call 114;refine (M _).mono ?_;rintro e w' ⟨rfl,rfl⟩) | (go_at_call 116;refine (E _).mono ?_;rintro e w' ⟨rfl,rfl⟩) | (go_at_call 117;refine (C _).mono ?_;rintro e w' ⟨rfl,rfl⟩) | (go_at_call 118;refine (P _).mono ?_;rintro e w' ⟨rfl,rfl⟩))
    go_ret;exact ⟨ret_val (by rw [HBS.out];exact HV.out.symm),d0⟩
  by_cases h6 : xs <= at_
  · skip
    have HV : Hid (refErr ad (refused bs ⟨2,nm,ot,at_,va,ep⟩) = .iface 106 (.agg #[.int .i64 6,.iface 228 (.pointer (some (ad 6)))])) := by
      have e1 : refused bs ⟨2,nm,ot,at_,va,ep⟩ = 6 := by rw [refusI_in 2 (.inl rfl),HFP.out,if_neg (by omega),HBK.out (by omega),if_neg (show ¬ ep < xe by omega),if_neg (show ¬ false = true from Bool.false_ne_true),if_pos (show xs <= at_ by omega)]
      rw [e1];rfl
    clear HFP HFB HBK
    go_wp2_with (first | (go_at_call 114;refine (M _).mono ?_;rintro e w' ⟨rfl,rfl⟩) | (go_at_call 116;refine (E _).mono ?_;rintro e w' ⟨rfl,rfl⟩) | (go_at_call 117;refine (C _).mono ?_;rintro e w' ⟨rfl,rfl⟩) | (go_at_call 118;refine (P _).mono ?_;rintro e w' ⟨rfl,rfl⟩))
    go_ret;exact ⟨ret_val (by rw [HBS.out];exact HV.out.symm),d0⟩
  have hA2 : ¬ xs <= at_ := h6
  have HV : Hid (refErr ad (refused bs ⟨2,nm,ot,at_,va,ep⟩) = .nilIface) := by
    have e1 : refused bs ⟨2,nm,ot,at_,va,ep⟩ = 0 := by rw [refusI_in 2 (.inl rfl),HFP.out,if_neg (by omega),HBK.out (by omega),if_neg (show ¬ ep < xe by omega),if_neg (show ¬ false = true from Bool.false_ne_true),if_neg (show ¬ xs <= at_ by omega)]
    rw [e1];rfl
  clear HFP HFB HBK
  go_wp2_with (first | (go_at_call 114;refine (M _).mono ?_;rintro e w' ⟨rfl,rfl⟩) | (go_at_call 116;refine (E _).mono ?_;rintro e w' ⟨rfl,rfl⟩) | (go_at_call 117;refine (C _).mono ?_;rintro e w' ⟨rfl,rfl⟩) | (go_at_call 118;refine (P _).mono ?_;rintro e w' ⟨rfl,rfl⟩))
  go_ret;exact ⟨ret_val (by rw [HBS.out];exact HV.out.symm),d0⟩
set_option maxRecDepth 100000 in
set_option maxHeartbeats 6400000 in
theorem refby_3 (vb : Value) (bks : List Bk) (nm ot : ByteArray) (at_ va ep : Int) (w : World) (ad : Nat -> Addr) (hv : Vars w ad) (hn : nm.size <= maxLen) (ho : ot.size <= maxLen) (fa : I64 at_) (fv : I64 va) (fe : I64 ep) (hlen : bks.length <= 6) (hep : ∀ b ∈ bks,b.ep <= 1000) (hms : ∀ b ∈ bks,∃ o k cap,b.m = .slice o k cap) (r : ReadsR 5 bookC w.heap.size w vb bks) (hok : opOk ⟨3,nm,ot,at_,va,ep⟩ = true) :
    Calls Tryz.prog 73 #[vb,.agg #[.int .i64 3,.string nm,.string ot,.int .i64 at_,.int .i64 va,.int .i64 ep]] w fun e w' => e = .returned (refErr ad (refused (bks.map Bk.pb) ⟨3,nm,ot,at_,va,ep⟩)) /\ Below w.heap.size w w' := by
  obtain ⟨ob,cpb,hvb,mb,-,-⟩ := id r;subst hvb;unfold maxLen at mb;obtain ⟨W0,hW0,k0,d0,z0⟩ := box1 w #[.int .i64 3,.string nm,.string ot,.int .i64 at_,.int .i64 va,.int .i64 ep] 26;have HW0 : Hid (W0 = _) := hW0;have HMS : Hid _ := hms;have r0 := (r.below d0).mono d0.size;have hv0 := hv.below d0;have p1 := at_cell k0 1;have hFl := findB_lt bks nm
  obtain ⟨F,hF⟩ : ∃ F,findB bks nm = F := ⟨_,rfl⟩
  have HFB : Hid (findB bks nm = F) := hF;have HFP : Hid (findP (bks.map Bk.pb) nm = F) := by rw [Hid,<- findB_P];exact hF
  have HBK : Hid (0 <= F -> bookAt (bks.map Bk.pb) F = (bkAt bks F).pb) := fun h => bkAt_pb bks F (by omega)
  have hform := bkAt_form bks F hms;rw [hF] at hFl;clear hW0 z0 r hv hms hF
  go_enter Tryz.func73,Tryz.ntmps73
  go_wp2_with fail
  rw [<- HW0.out];clear HW0 p1;refine (implFindBook_any _ bks nm _ HMS.out r0).mono ?_;rw [HFB.out];rintro e w1 ⟨rfl,b1⟩;replace k0 := (b1.block _ (heap_lt k0)).trans k0;replace d0 := bw_call d0 b1;replace r0 := (r0.below b1).mono b1.size;replace hv0 := hv0.below b1;clear b1
  go_wp2_with fail
  refine (bookAt_any _ bks F _ hFl HMS.out r0).mono ?_;rintro e w2 ⟨rfl,b2⟩;replace k0 := (b2.block _ (heap_lt k0)).trans k0;replace d0 := bw_call d0 b2;replace r0 := (r0.below b2).mono b2.size;replace hv0 := hv0.below b2;clear b2
  obtain ⟨x,hx⟩ : ∃ x,bkAt bks F = x := ⟨_,rfl⟩
  rw [hx] at HBK hform ⊢;clear hx;obtain ⟨xn,xs,xm,xr,xf,xe⟩ := x;obtain ⟨ox,kx,cx,hxm⟩ := hform;simp only at hxm;subst hxm;simp only [Bk.pb] at HBK;obtain ⟨W3,hW3,k6,d3,z3⟩ := box1 w2 #[.string xn,.int .i64 xs,.slice ox kx cx,.bool xf,.int .i64 xe] 87;have HW3 : Hid (W3 = _) := hW3;replace k0 := (d3.block _ (heap_lt k0)).trans k0;replace d0 := bw_call d0 d3;replace r0 := (r0.below d3).mono d3.size;replace hv0 := hv0.below d3;obtain ⟨p0,p1,p2,p3,p4,p5⟩ := c6 k0;rw [hW3] at p0 p1 p2 p3 p4 p5;clear hW3 z3 d3;simp only [bookC]
  go_wp2_with fail
  rw [<- HW3.out];clear HW3 p0 p1 p2 p3 p4 p5;refine (implOpOk_any 3 nm ot at_ va ep _ hn ho (by unfold I64;omega) fa fv fe).mono ?_;rw [hok];rintro e w4 ⟨rfl,b4⟩;replace k0 := (b4.block _ (heap_lt k0)).trans k0;replace k6 := (b4.block _ (heap_lt k6)).trans k6;replace d0 := bw_call d0 b4;replace r0 := (r0.below b4).mono b4.size;replace hv0 := hv0.below b4;clear b4;have HLN : Hid ((bks.map Bk.pb).length = bks.length) := List.length_map _
  obtain ⟨bs,hbs⟩ : ∃ bs,bks.map Bk.pb = bs := ⟨_,rfl⟩
  have HBS : Hid (bks.map Bk.pb = bs) := hbs;rw [hbs] at HFP HBK HLN;clear hbs;have M : ∀ w : World,Calls Tryz.prog 114 #[.int .i64 3] w fun e w' => e = .returned (.bool false) /\ w' = w := fun w => makes_any 3 (by omega) w
  have E : ∀ w : World,Calls Tryz.prog 116 #[.int .i64 3] w fun e w' => e = .returned (.bool true) /\ w' = w := fun w => heedsEpoch_any 3 (by omega) w
  have C : ∀ w : World,Calls Tryz.prog 117 #[.int .i64 3] w fun e w' => e = .returned (.bool true) /\ w' = w := fun w => changesInside_any 3 (by omega) w
  have P : ∀ w : World,Calls Tryz.prog 118 #[.int .i64 3] w fun e w' => e = .returned (.bool true) /\ w' = w := fun w => asksPlace_any 3 (by omega) w
  obtain ⟨p0,p1,p2,p3,p4,p5⟩ := c6 k0;have q1 := at_cell k6 1;have q3 := at_cell k6 3;have q4 := at_cell k6 4;have g2 := hv0.cell 2 (by decide);have g4 := hv0.cell 4 (by decide);have g5 := hv0.cell 5 (by decide);have g6 := hv0.cell 6 (by decide);by_cases h2 : F < 0
  · skip
    have HV : Hid (refErr ad (refused bs ⟨3,nm,ot,at_,va,ep⟩) = .iface 106 (.agg #[.int .i64 2,.iface 228 (.pointer (some (ad 2)))])) := by
      have e1 : refused bs ⟨3,nm,ot,at_,va,ep⟩ = 2 := by rw [refusI_in 3 (.inr rfl),HFP.out,if_pos (by omega)]
      rw [e1];rfl
    clear HFP HFB HBK
    go_wp2_with (first | (go_at_call 114;refine (M _).mono ?_;rintro e w' ⟨rfl,rfl⟩) | (go_at_call 116;refine (E _).mono ?_;rintro e w' ⟨rfl,rfl⟩) | (go_at_call 117;refine (C _).mono ?_;rintro e w' ⟨rfl,rfl⟩) | (go_at_call 118;refine (P _).mono ?_;rintro e w' ⟨rfl,rfl⟩))
    go_ret;exact ⟨ret_val (by rw [HBS.out];exact HV.out.symm),d0⟩
  by_cases h4 : ep < xe
  · skip
    have HV : Hid (refErr ad (refused bs ⟨3,nm,ot,at_,va,ep⟩) = .iface 106 (.agg #[.int .i64 4,.iface 228 (.pointer (some (ad 4)))])) := by
      have e1 : refused bs ⟨3,nm,ot,at_,va,ep⟩ = 4 := by rw [refusI_in 3 (.inr rfl),HFP.out,if_neg (by omega),HBK.out (by omega),if_pos (show ep < xe by omega)]
      rw [e1];rfl
    clear HFP HFB HBK
    go_wp2_with (first | (go_at_call 114;refine (M _).mono ?_;rintro e w' ⟨rfl,rfl⟩) | (go_at_call 116;refine (E _).mono ?_;rintro e w' ⟨rfl,rfl⟩) | (go_at_call 117;refine (C _).mono ?_;rintro e w' ⟨rfl,rfl⟩) | (go_at_call 118;refine (P _).mono ?_;rintro e w' ⟨rfl,rfl⟩))
    go_ret;exact ⟨ret_val (by rw [HBS.out];exact HV.out.symm),d0⟩
  cases xf
  case true =>
    have HV : Hid (refErr ad (refused bs ⟨3,nm,ot,at_,va,ep⟩) = .iface 106 (.agg #[.int .i64 5,.iface 228 (.pointer (some (ad 5)))])) := by
      have e1 : refused bs ⟨3,nm,ot,at_,va,ep⟩ = 5 := by rw [refusI_in 3 (.inr rfl),HFP.out,if_neg (by omega),HBK.out (by omega),if_neg (show ¬ ep < xe by omega),if_pos rfl]
      rw [e1];rfl
    clear HFP HFB HBK
    go_wp2_with (first | (go_at_call 114;refine (M _).mono ?_;rintro e w' ⟨rfl,rfl⟩) | (go_at_call 116;refine (E _).mono ?_;rintro e w' ⟨rfl,rfl⟩) | (go_at_call 117;refine (C _).mono ?_;rintro e w' ⟨rfl,rfl⟩) | (go_at_call 118;refine (P _).mono ?_;rintro e w' ⟨rfl,rfl⟩))
    go_ret;exact ⟨ret_val (by rw [HBS.out];exact HV.out.symm),d0⟩
  by_cases h6 : xs <= at_
  · skip
    have HV : Hid (refErr ad (refused bs ⟨3,nm,ot,at_,va,ep⟩) = .iface 106 (.agg #[.int .i64 6,.iface 228 (.pointer (some (ad 6)))])) := by
      have e1 : refused bs ⟨3,nm,ot,at_,va,ep⟩ = 6 := by rw [refusI_in 3 (.inr rfl),HFP.out,if_neg (by omega),HBK.out (by omega),if_neg (show ¬ ep < xe by omega),if_neg (show ¬ false = true from Bool.false_ne_true),if_pos (show xs <= at_ by omega)]
      rw [e1];rfl
    clear HFP HFB HBK
    go_wp2_with (first | (go_at_call 114;refine (M _).mono ?_;rintro e w' ⟨rfl,rfl⟩) | (go_at_call 116;refine (E _).mono ?_;rintro e w' ⟨rfl,rfl⟩) | (go_at_call 117;refine (C _).mono ?_;rintro e w' ⟨rfl,rfl⟩) | (go_at_call 118;refine (P _).mono ?_;rintro e w' ⟨rfl,rfl⟩))
    go_ret;exact ⟨ret_val (by rw [HBS.out];exact HV.out.symm),d0⟩
  have hA2 : ¬ xs <= at_ := h6
  have HV : Hid (refErr ad (refused bs ⟨3,nm,ot,at_,va,ep⟩) = .nilIface) := by
    have e1 : refused bs ⟨3,nm,ot,at_,va,ep⟩ = 0 := by rw [refusI_in 3 (.inr rfl),HFP.out,if_neg (by omega),HBK.out (by omega),if_neg (show ¬ ep < xe by omega),if_neg (show ¬ false = true from Bool.false_ne_true),if_neg (show ¬ xs <= at_ by omega)]
    rw [e1];rfl
  clear HFP HFB HBK
  go_wp2_with (first | (go_at_call 114;refine (M _).mono ?_;rintro e w' ⟨rfl,rfl⟩) | (go_at_call 116;refine (E _).mono ?_;rintro e w' ⟨rfl,rfl⟩) | (go_at_call 117;refine (C _).mono ?_;rintro e w' ⟨rfl,rfl⟩) | (go_at_call 118;refine (P _).mono ?_;rintro e w' ⟨rfl,rfl⟩))
  go_ret;exact ⟨ret_val (by rw [HBS.out];exact HV.out.symm),d0⟩
set_option maxRecDepth 100000 in
set_option maxHeartbeats 6400000 in
theorem refby_4 (vb : Value) (bks : List Bk) (nm ot : ByteArray) (at_ va ep : Int) (w : World) (ad : Nat -> Addr) (hv : Vars w ad) (hn : nm.size <= maxLen) (ho : ot.size <= maxLen) (fa : I64 at_) (fv : I64 va) (fe : I64 ep) (hlen : bks.length <= 6) (hep : ∀ b ∈ bks,b.ep <= 1000) (hms : ∀ b ∈ bks,∃ o k cap,b.m = .slice o k cap) (r : ReadsR 5 bookC w.heap.size w vb bks) (hok : opOk ⟨4,nm,ot,at_,va,ep⟩ = true) :
    Calls Tryz.prog 73 #[vb,.agg #[.int .i64 4,.string nm,.string ot,.int .i64 at_,.int .i64 va,.int .i64 ep]] w fun e w' => e = .returned (refErr ad (refused (bks.map Bk.pb) ⟨4,nm,ot,at_,va,ep⟩)) /\ Below w.heap.size w w' := by
  obtain ⟨ob,cpb,hvb,mb,-,-⟩ := id r;subst hvb;unfold maxLen at mb;obtain ⟨W0,hW0,k0,d0,z0⟩ := box1 w #[.int .i64 4,.string nm,.string ot,.int .i64 at_,.int .i64 va,.int .i64 ep] 26;have HW0 : Hid (W0 = _) := hW0;have HMS : Hid _ := hms;have r0 := (r.below d0).mono d0.size;have hv0 := hv.below d0;have p1 := at_cell k0 1;have hFl := findB_lt bks nm
  obtain ⟨F,hF⟩ : ∃ F,findB bks nm = F := ⟨_,rfl⟩
  have HFB : Hid (findB bks nm = F) := hF;have HFP : Hid (findP (bks.map Bk.pb) nm = F) := by rw [Hid,<- findB_P];exact hF
  have HBK : Hid (0 <= F -> bookAt (bks.map Bk.pb) F = (bkAt bks F).pb) := fun h => bkAt_pb bks F (by omega)
  have hform := bkAt_form bks F hms;rw [hF] at hFl;clear hW0 z0 r hv hms hF
  go_enter Tryz.func73,Tryz.ntmps73
  go_wp2_with fail
  rw [<- HW0.out];clear HW0 p1;refine (implFindBook_any _ bks nm _ HMS.out r0).mono ?_;rw [HFB.out];rintro e w1 ⟨rfl,b1⟩;replace k0 := (b1.block _ (heap_lt k0)).trans k0;replace d0 := bw_call d0 b1;replace r0 := (r0.below b1).mono b1.size;replace hv0 := hv0.below b1;clear b1
  go_wp2_with fail
  refine (bookAt_any _ bks F _ hFl HMS.out r0).mono ?_;rintro e w2 ⟨rfl,b2⟩;replace k0 := (b2.block _ (heap_lt k0)).trans k0;replace d0 := bw_call d0 b2;replace r0 := (r0.below b2).mono b2.size;replace hv0 := hv0.below b2;clear b2
  obtain ⟨x,hx⟩ : ∃ x,bkAt bks F = x := ⟨_,rfl⟩
  rw [hx] at HBK hform ⊢;clear hx;obtain ⟨xn,xs,xm,xr,xf,xe⟩ := x;obtain ⟨ox,kx,cx,hxm⟩ := hform;simp only at hxm;subst hxm;simp only [Bk.pb] at HBK;obtain ⟨W3,hW3,k6,d3,z3⟩ := box1 w2 #[.string xn,.int .i64 xs,.slice ox kx cx,.bool xf,.int .i64 xe] 87;have HW3 : Hid (W3 = _) := hW3;replace k0 := (d3.block _ (heap_lt k0)).trans k0;replace d0 := bw_call d0 d3;replace r0 := (r0.below d3).mono d3.size;replace hv0 := hv0.below d3;obtain ⟨p0,p1,p2,p3,p4,p5⟩ := c6 k0;rw [hW3] at p0 p1 p2 p3 p4 p5;clear hW3 z3 d3;simp only [bookC]
  go_wp2_with fail
  rw [<- HW3.out];clear HW3 p0 p1 p2 p3 p4 p5;refine (implOpOk_any 4 nm ot at_ va ep _ hn ho (by unfold I64;omega) fa fv fe).mono ?_;rw [hok];rintro e w4 ⟨rfl,b4⟩;replace k0 := (b4.block _ (heap_lt k0)).trans k0;replace k6 := (b4.block _ (heap_lt k6)).trans k6;replace d0 := bw_call d0 b4;replace r0 := (r0.below b4).mono b4.size;replace hv0 := hv0.below b4;clear b4;have HLN : Hid ((bks.map Bk.pb).length = bks.length) := List.length_map _
  obtain ⟨bs,hbs⟩ : ∃ bs,bks.map Bk.pb = bs := ⟨_,rfl⟩
  have HBS : Hid (bks.map Bk.pb = bs) := hbs;have HFO : Hid (findB bks ot = findP (bks.map Bk.pb) ot) := findB_P bks ot;rw [hbs] at HFP HBK HLN HFO;clear hbs;have M : ∀ w : World,Calls Tryz.prog 114 #[.int .i64 4] w fun e w' => e = .returned (.bool true) /\ w' = w := fun w => makes_any 4 (by omega) w
  have E : ∀ w : World,Calls Tryz.prog 116 #[.int .i64 4] w fun e w' => e = .returned (.bool false) /\ w' = w := fun w => heedsEpoch_any 4 (by omega) w
  have C : ∀ w : World,Calls Tryz.prog 117 #[.int .i64 4] w fun e w' => e = .returned (.bool false) /\ w' = w := fun w => changesInside_any 4 (by omega) w
  have P : ∀ w : World,Calls Tryz.prog 118 #[.int .i64 4] w fun e w' => e = .returned (.bool false) /\ w' = w := fun w => asksPlace_any 4 (by omega) w
  obtain ⟨p0,p1,p2,p3,p4,p5⟩ := c6 k0;have q1 := at_cell k6 1;have q3 := at_cell k6 3;have q4 := at_cell k6 4;have g2 := hv0.cell 2 (by decide);have g3 := hv0.cell 3 (by decide);have g7 := hv0.cell 7 (by decide);by_cases h2 : F < 0
  · skip
    have HV : Hid (refErr ad (refused bs ⟨4,nm,ot,at_,va,ep⟩) = .iface 106 (.agg #[.int .i64 2,.iface 228 (.pointer (some (ad 2)))])) := by
      have e1 : refused bs ⟨4,nm,ot,at_,va,ep⟩ = 2 := by rw [refusI_oth 4 (.inl rfl),HFP.out,if_pos (by omega)]
      rw [e1];rfl
    clear HFP HFB HBK
    go_wp2_with (first | (go_at_call 114;refine (M _).mono ?_;rintro e w' ⟨rfl,rfl⟩) | (go_at_call 116;refine (E _).mono ?_;rintro e w' ⟨rfl,rfl⟩) | (go_at_call 117;refine (C _).mono ?_;rintro e w' ⟨rfl,rfl⟩) | (go_at_call 118;refine (P _).mono ?_;rintro e w' ⟨rfl,rfl⟩))
    go_ret;exact ⟨ret_val (by rw [HBS.out];exact HV.out.symm),d0⟩
  go_wp2_with (first | (go_at_call 114;refine (M _).mono ?_;rintro e w' ⟨rfl,rfl⟩) | (go_at_call 116;refine (E _).mono ?_;rintro e w' ⟨rfl,rfl⟩) | (go_at_call 117;refine (C _).mono ?_;rintro e w' ⟨rfl,rfl⟩) | (go_at_call 118;refine (P _).mono ?_;rintro e w' ⟨rfl,rfl⟩))
  refine (madeName_other 4 (by omega) nm ot at_ va ep _).mono ?_;rintro e w5 ⟨rfl,b5⟩;replace k0 := (b5.block _ (heap_lt k0)).trans k0;replace k6 := (b5.block _ (heap_lt k6)).trans k6;replace d0 := bw_call d0 b5;replace r0 := (r0.below b5).mono b5.size;replace hv0 := hv0.below b5;clear p0 p1 p2 p3 p4 p5 q1 q3 q4 g2 g3 g7 b5
  go_wp2_with fail
  refine (implFindBook_any _ bks ot _ HMS.out r0).mono ?_
  obtain ⟨G,hG⟩ : ∃ G,findB bks ot = G := ⟨_,rfl⟩
  have HNP : Hid (findP bs ot = G) := by rw [Hid,<- HFO.out];exact hG
  rw [hG];clear hG;rintro e w6 ⟨rfl,b6⟩;replace k0 := (b6.block _ (heap_lt k0)).trans k0;replace k6 := (b6.block _ (heap_lt k6)).trans k6;replace d0 := bw_call d0 b6;replace r0 := (r0.below b6).mono b6.size;replace hv0 := hv0.below b6;clear b6;obtain ⟨p0,p1,p2,p3,p4,p5⟩ := c6 k0;have q1 := at_cell k6 1;have q3 := at_cell k6 3;have q4 := at_cell k6 4;have g2 := hv0.cell 2 (by decide);have g3 := hv0.cell 3 (by decide);have g7 := hv0.cell 7 (by decide);by_cases h3 : 0 <= G
  · skip
    have HV : Hid (refErr ad (refused bs ⟨4,nm,ot,at_,va,ep⟩) = .iface 106 (.agg #[.int .i64 3,.iface 228 (.pointer (some (ad 3)))])) := by
      have e1 : refused bs ⟨4,nm,ot,at_,va,ep⟩ = 3 := by rw [refusI_oth 4 (.inl rfl),HFP.out,if_neg (by omega),HNP.out,if_pos (by omega)]
      rw [e1];rfl
    clear HFP HFB HBK
    go_wp2_with (first | (go_at_call 114;refine (M _).mono ?_;rintro e w' ⟨rfl,rfl⟩) | (go_at_call 116;refine (E _).mono ?_;rintro e w' ⟨rfl,rfl⟩) | (go_at_call 117;refine (C _).mono ?_;rintro e w' ⟨rfl,rfl⟩) | (go_at_call 118;refine (P _).mono ?_;rintro e w' ⟨rfl,rfl⟩))
    go_ret;exact ⟨ret_val (by rw [HBS.out];exact HV.out.symm),d0⟩
  by_cases h7 : (6 : Int) <= (bks.length : Int)
  · skip
    have hl6 : bks.length = 6 := by omega
    have HV : Hid (refErr ad (refused bs ⟨4,nm,ot,at_,va,ep⟩) = .iface 106 (.agg #[.int .i64 7,.iface 228 (.pointer (some (ad 7)))])) := by
      have e1 : refused bs ⟨4,nm,ot,at_,va,ep⟩ = 7 := by rw [refusI_oth 4 (.inl rfl),HFP.out,if_neg (by omega),HNP.out,if_neg (by omega),HLN.out,if_pos (by omega)]
      rw [e1];rfl
    clear HFP HFB HBK
    go_wp2_with (first | (go_at_call 114;refine (M _).mono ?_;rintro e w' ⟨rfl,rfl⟩) | (go_at_call 116;refine (E _).mono ?_;rintro e w' ⟨rfl,rfl⟩) | (go_at_call 117;refine (C _).mono ?_;rintro e w' ⟨rfl,rfl⟩) | (go_at_call 118;refine (P _).mono ?_;rintro e w' ⟨rfl,rfl⟩))
    go_ret;exact ⟨ret_val (by rw [HBS.out];exact HV.out.symm),d0⟩
  have hl6 : ¬ bks.length = 6 := by omega
  have HV : Hid (refErr ad (refused bs ⟨4,nm,ot,at_,va,ep⟩) = .nilIface) := by
    have e1 : refused bs ⟨4,nm,ot,at_,va,ep⟩ = 0 := by rw [refusI_oth 4 (.inl rfl),HFP.out,if_neg (by omega),HNP.out,if_neg (by omega),HLN.out,if_neg (by omega)]
    rw [e1];rfl
  clear HFP HFB HBK
  go_wp2_with (first | (go_at_call 114;refine (M _).mono ?_;rintro e w' ⟨rfl,rfl⟩) | (go_at_call 116;refine (E _).mono ?_;rintro e w' ⟨rfl,rfl⟩) | (go_at_call 117;refine (C _).mono ?_;rintro e w' ⟨rfl,rfl⟩) | (go_at_call 118;refine (P _).mono ?_;rintro e w' ⟨rfl,rfl⟩))
  go_ret;exact ⟨ret_val (by rw [HBS.out];exact HV.out.symm),d0⟩
set_option maxRecDepth 100000 in
set_option maxHeartbeats 6400000 in
theorem refby_5 (vb : Value) (bks : List Bk) (nm ot : ByteArray) (at_ va ep : Int) (w : World) (ad : Nat -> Addr) (hv : Vars w ad) (hn : nm.size <= maxLen) (ho : ot.size <= maxLen) (fa : I64 at_) (fv : I64 va) (fe : I64 ep) (hlen : bks.length <= 6) (hep : ∀ b ∈ bks,b.ep <= 1000) (hms : ∀ b ∈ bks,∃ o k cap,b.m = .slice o k cap) (r : ReadsR 5 bookC w.heap.size w vb bks) (hok : opOk ⟨5,nm,ot,at_,va,ep⟩ = true) :
    Calls Tryz.prog 73 #[vb,.agg #[.int .i64 5,.string nm,.string ot,.int .i64 at_,.int .i64 va,.int .i64 ep]] w fun e w' => e = .returned (refErr ad (refused (bks.map Bk.pb) ⟨5,nm,ot,at_,va,ep⟩)) /\ Below w.heap.size w w' := by
  obtain ⟨ob,cpb,hvb,mb,-,-⟩ := id r;subst hvb;unfold maxLen at mb;obtain ⟨W0,hW0,k0,d0,z0⟩ := box1 w #[.int .i64 5,.string nm,.string ot,.int .i64 at_,.int .i64 va,.int .i64 ep] 26;have HW0 : Hid (W0 = _) := hW0;have HMS : Hid _ := hms;have r0 := (r.below d0).mono d0.size;have hv0 := hv.below d0;have p1 := at_cell k0 1;have hFl := findB_lt bks nm
  obtain ⟨F,hF⟩ : ∃ F,findB bks nm = F := ⟨_,rfl⟩
  have HFB : Hid (findB bks nm = F) := hF;have HFP : Hid (findP (bks.map Bk.pb) nm = F) := by rw [Hid,<- findB_P];exact hF
  have HBK : Hid (0 <= F -> bookAt (bks.map Bk.pb) F = (bkAt bks F).pb) := fun h => bkAt_pb bks F (by omega)
  have hform := bkAt_form bks F hms;rw [hF] at hFl;clear hW0 z0 r hv hms hF
  go_enter Tryz.func73,Tryz.ntmps73
  go_wp2_with fail
  rw [<- HW0.out];clear HW0 p1;refine (implFindBook_any _ bks nm _ HMS.out r0).mono ?_;rw [HFB.out];rintro e w1 ⟨rfl,b1⟩;replace k0 := (b1.block _ (heap_lt k0)).trans k0;replace d0 := bw_call d0 b1;replace r0 := (r0.below b1).mono b1.size;replace hv0 := hv0.below b1;clear b1
  go_wp2_with fail
  refine (bookAt_any _ bks F _ hFl HMS.out r0).mono ?_;rintro e w2 ⟨rfl,b2⟩;replace k0 := (b2.block _ (heap_lt k0)).trans k0;replace d0 := bw_call d0 b2;replace r0 := (r0.below b2).mono b2.size;replace hv0 := hv0.below b2;clear b2
  obtain ⟨x,hx⟩ : ∃ x,bkAt bks F = x := ⟨_,rfl⟩
  rw [hx] at HBK hform ⊢;clear hx;obtain ⟨xn,xs,xm,xr,xf,xe⟩ := x;obtain ⟨ox,kx,cx,hxm⟩ := hform;simp only at hxm;subst hxm;simp only [Bk.pb] at HBK;obtain ⟨W3,hW3,k6,d3,z3⟩ := box1 w2 #[.string xn,.int .i64 xs,.slice ox kx cx,.bool xf,.int .i64 xe] 87;have HW3 : Hid (W3 = _) := hW3;replace k0 := (d3.block _ (heap_lt k0)).trans k0;replace d0 := bw_call d0 d3;replace r0 := (r0.below d3).mono d3.size;replace hv0 := hv0.below d3;obtain ⟨p0,p1,p2,p3,p4,p5⟩ := c6 k0;rw [hW3] at p0 p1 p2 p3 p4 p5;clear hW3 z3 d3;simp only [bookC]
  go_wp2_with fail
  rw [<- HW3.out];clear HW3 p0 p1 p2 p3 p4 p5;refine (implOpOk_any 5 nm ot at_ va ep _ hn ho (by unfold I64;omega) fa fv fe).mono ?_;rw [hok];rintro e w4 ⟨rfl,b4⟩;replace k0 := (b4.block _ (heap_lt k0)).trans k0;replace k6 := (b4.block _ (heap_lt k6)).trans k6;replace d0 := bw_call d0 b4;replace r0 := (r0.below b4).mono b4.size;replace hv0 := hv0.below b4;clear b4;have HLN : Hid ((bks.map Bk.pb).length = bks.length) := List.length_map _
  obtain ⟨bs,hbs⟩ : ∃ bs,bks.map Bk.pb = bs := ⟨_,rfl⟩
  have HBS : Hid (bks.map Bk.pb = bs) := hbs;have HFO : Hid (findB bks ot = findP (bks.map Bk.pb) ot) := findB_P bks ot;rw [hbs] at HFP HBK HLN HFO;clear hbs;have M : ∀ w : World,Calls Tryz.prog 114 #[.int .i64 5] w fun e w' => e = .returned (.bool true) /\ w' = w := fun w => makes_any 5 (by omega) w
  have E : ∀ w : World,Calls Tryz.prog 116 #[.int .i64 5] w fun e w' => e = .returned (.bool false) /\ w' = w := fun w => heedsEpoch_any 5 (by omega) w
  have C : ∀ w : World,Calls Tryz.prog 117 #[.int .i64 5] w fun e w' => e = .returned (.bool false) /\ w' = w := fun w => changesInside_any 5 (by omega) w
  have P : ∀ w : World,Calls Tryz.prog 118 #[.int .i64 5] w fun e w' => e = .returned (.bool false) /\ w' = w := fun w => asksPlace_any 5 (by omega) w
  obtain ⟨p0,p1,p2,p3,p4,p5⟩ := c6 k0;have q1 := at_cell k6 1;have q3 := at_cell k6 3;have q4 := at_cell k6 4;have g2 := hv0.cell 2 (by decide);have g3 := hv0.cell 3 (by decide);have g7 := hv0.cell 7 (by decide);by_cases h2 : F < 0
  · skip
    have HV : Hid (refErr ad (refused bs ⟨5,nm,ot,at_,va,ep⟩) = .iface 106 (.agg #[.int .i64 2,.iface 228 (.pointer (some (ad 2)))])) := by
      have e1 : refused bs ⟨5,nm,ot,at_,va,ep⟩ = 2 := by rw [refusI_oth 5 (.inr rfl),HFP.out,if_pos (by omega)]
      rw [e1];rfl
    clear HFP HFB HBK
    go_wp2_with (first | (go_at_call 114;refine (M _).mono ?_;rintro e w' ⟨rfl,rfl⟩) | (go_at_call 116;refine (E _).mono ?_;rintro e w' ⟨rfl,rfl⟩) | (go_at_call 117;refine (C _).mono ?_;rintro e w' ⟨rfl,rfl⟩) | (go_at_call 118;refine (P _).mono ?_;rintro e w' ⟨rfl,rfl⟩))
    go_ret;exact ⟨ret_val (by rw [HBS.out];exact HV.out.symm),d0⟩
  go_wp2_with (first | (go_at_call 114;refine (M _).mono ?_;rintro e w' ⟨rfl,rfl⟩) | (go_at_call 116;refine (E _).mono ?_;rintro e w' ⟨rfl,rfl⟩) | (go_at_call 117;refine (C _).mono ?_;rintro e w' ⟨rfl,rfl⟩) | (go_at_call 118;refine (P _).mono ?_;rintro e w' ⟨rfl,rfl⟩))
  refine (madeName_other 5 (by omega) nm ot at_ va ep _).mono ?_;rintro e w5 ⟨rfl,b5⟩;replace k0 := (b5.block _ (heap_lt k0)).trans k0;replace k6 := (b5.block _ (heap_lt k6)).trans k6;replace d0 := bw_call d0 b5;replace r0 := (r0.below b5).mono b5.size;replace hv0 := hv0.below b5;clear p0 p1 p2 p3 p4 p5 q1 q3 q4 g2 g3 g7 b5
  go_wp2_with fail
  refine (implFindBook_any _ bks ot _ HMS.out r0).mono ?_
  obtain ⟨G,hG⟩ : ∃ G,findB bks ot = G := ⟨_,rfl⟩
  have HNP : Hid (findP bs ot = G) := by rw [Hid,<- HFO.out];exact hG
  rw [hG];clear hG;rintro e w6 ⟨rfl,b6⟩;replace k0 := (b6.block _ (heap_lt k0)).trans k0;replace k6 := (b6.block _ (heap_lt k6)).trans k6;replace d0 := bw_call d0 b6;replace r0 := (r0.below b6).mono b6.size;replace hv0 := hv0.below b6;clear b6;obtain ⟨p0,p1,p2,p3,p4,p5⟩ := c6 k0;have q1 := at_cell k6 1;have q3 := at_cell k6 3;have q4 := at_cell k6 4;have g2 := hv0.cell 2 (by decide);have g3 := hv0.cell 3 (by decide);have g7 := hv0.cell 7 (by decide);by_cases h3 : 0 <= G
  · skip
    have HV : Hid (refErr ad (refused bs ⟨5,nm,ot,at_,va,ep⟩) = .iface 106 (.agg #[.int .i64 3,.iface 228 (.pointer (some (ad 3)))])) := by
      have e1 : refused bs ⟨5,nm,ot,at_,va,ep⟩ = 3 := by rw [refusI_oth 5 (.inr rfl),HFP.out,if_neg (by omega),HNP.out,if_pos (by omega)]
      rw [e1];rfl
    clear HFP HFB HBK
    go_wp2_with (first | (go_at_call 114;refine (M _).mono ?_;rintro e w' ⟨rfl,rfl⟩) | (go_at_call 116;refine (E _).mono ?_;rintro e w' ⟨rfl,rfl⟩) | (go_at_call 117;refine (C _).mono ?_;rintro e w' ⟨rfl,rfl⟩) | (go_at_call 118;refine (P _).mono ?_;rintro e w' ⟨rfl,rfl⟩))
    go_ret;exact ⟨ret_val (by rw [HBS.out];exact HV.out.symm),d0⟩
  by_cases h7 : (6 : Int) <= (bks.length : Int)
  · skip
    have hl6 : bks.length = 6 := by omega
    have HV : Hid (refErr ad (refused bs ⟨5,nm,ot,at_,va,ep⟩) = .iface 106 (.agg #[.int .i64 7,.iface 228 (.pointer (some (ad 7)))])) := by
      have e1 : refused bs ⟨5,nm,ot,at_,va,ep⟩ = 7 := by rw [refusI_oth 5 (.inr rfl),HFP.out,if_neg (by omega),HNP.out,if_neg (by omega),HLN.out,if_pos (by omega)]
      rw [e1];rfl
    clear HFP HFB HBK
    go_wp2_with (first | (go_at_call 114;refine (M _).mono ?_;rintro e w' ⟨rfl,rfl⟩) | (go_at_call 116;refine (E _).mono ?_;rintro e w' ⟨rfl,rfl⟩) | (go_at_call 117;refine (C _).mono ?_;rintro e w' ⟨rfl,rfl⟩) | (go_at_call 118;refine (P _).mono ?_;rintro e w' ⟨rfl,rfl⟩))
    go_ret;exact ⟨ret_val (by rw [HBS.out];exact HV.out.symm),d0⟩
  have hl6 : ¬ bks.length = 6 := by omega
  have HV : Hid (refErr ad (refused bs ⟨5,nm,ot,at_,va,ep⟩) = .nilIface) := by
    have e1 : refused bs ⟨5,nm,ot,at_,va,ep⟩ = 0 := by rw [refusI_oth 5 (.inr rfl),HFP.out,if_neg (by omega),HNP.out,if_neg (by omega),HLN.out,if_neg (by omega)]
    rw [e1];rfl
  clear HFP HFB HBK
  go_wp2_with (first | (go_at_call 114;refine (M _).mono ?_;rintro e w' ⟨rfl,rfl⟩) | (go_at_call 116;refine (E _).mono ?_;rintro e w' ⟨rfl,rfl⟩) | (go_at_call 117;refine (C _).mono ?_;rintro e w' ⟨rfl,rfl⟩) | (go_at_call 118;refine (P _).mono ?_;rintro e w' ⟨rfl,rfl⟩))
  go_ret;exact ⟨ret_val (by rw [HBS.out];exact HV.out.symm),d0⟩
set_option maxRecDepth 100000 in
set_option maxHeartbeats 6400000 in
theorem refby_6 (vb : Value) (bks : List Bk) (nm ot : ByteArray) (at_ va ep : Int) (w : World) (ad : Nat -> Addr) (hv : Vars w ad) (hn : nm.size <= maxLen) (ho : ot.size <= maxLen) (fa : I64 at_) (fv : I64 va) (fe : I64 ep) (hlen : bks.length <= 6) (hep : ∀ b ∈ bks,b.ep <= 1000) (hms : ∀ b ∈ bks,∃ o k cap,b.m = .slice o k cap) (r : ReadsR 5 bookC w.heap.size w vb bks) (hok : opOk ⟨6,nm,ot,at_,va,ep⟩ = true) :
    Calls Tryz.prog 73 #[vb,.agg #[.int .i64 6,.string nm,.string ot,.int .i64 at_,.int .i64 va,.int .i64 ep]] w fun e w' => e = .returned (refErr ad (refused (bks.map Bk.pb) ⟨6,nm,ot,at_,va,ep⟩)) /\ Below w.heap.size w w' := by
  obtain ⟨ob,cpb,hvb,mb,-,-⟩ := id r;subst hvb;unfold maxLen at mb;obtain ⟨W0,hW0,k0,d0,z0⟩ := box1 w #[.int .i64 6,.string nm,.string ot,.int .i64 at_,.int .i64 va,.int .i64 ep] 26;have HW0 : Hid (W0 = _) := hW0;have HMS : Hid _ := hms;have r0 := (r.below d0).mono d0.size;have hv0 := hv.below d0;have p1 := at_cell k0 1;have hFl := findB_lt bks nm
  obtain ⟨F,hF⟩ : ∃ F,findB bks nm = F := ⟨_,rfl⟩
  have HFB : Hid (findB bks nm = F) := hF;have HFP : Hid (findP (bks.map Bk.pb) nm = F) := by rw [Hid,<- findB_P];exact hF
  have HBK : Hid (0 <= F -> bookAt (bks.map Bk.pb) F = (bkAt bks F).pb) := fun h => bkAt_pb bks F (by omega)
  have hform := bkAt_form bks F hms;rw [hF] at hFl;clear hW0 z0 r hv hms hF
  go_enter Tryz.func73,Tryz.ntmps73
  go_wp2_with fail
  rw [<- HW0.out];clear HW0 p1;refine (implFindBook_any _ bks nm _ HMS.out r0).mono ?_;rw [HFB.out];rintro e w1 ⟨rfl,b1⟩;replace k0 := (b1.block _ (heap_lt k0)).trans k0;replace d0 := bw_call d0 b1;replace r0 := (r0.below b1).mono b1.size;replace hv0 := hv0.below b1;clear b1
  go_wp2_with fail
  refine (bookAt_any _ bks F _ hFl HMS.out r0).mono ?_;rintro e w2 ⟨rfl,b2⟩;replace k0 := (b2.block _ (heap_lt k0)).trans k0;replace d0 := bw_call d0 b2;replace r0 := (r0.below b2).mono b2.size;replace hv0 := hv0.below b2;clear b2
  obtain ⟨x,hx⟩ : ∃ x,bkAt bks F = x := ⟨_,rfl⟩
  rw [hx] at HBK hform ⊢;clear hx;obtain ⟨xn,xs,xm,xr,xf,xe⟩ := x;obtain ⟨ox,kx,cx,hxm⟩ := hform;simp only at hxm;subst hxm;simp only [Bk.pb] at HBK;obtain ⟨W3,hW3,k6,d3,z3⟩ := box1 w2 #[.string xn,.int .i64 xs,.slice ox kx cx,.bool xf,.int .i64 xe] 87;have HW3 : Hid (W3 = _) := hW3;replace k0 := (d3.block _ (heap_lt k0)).trans k0;replace d0 := bw_call d0 d3;replace r0 := (r0.below d3).mono d3.size;replace hv0 := hv0.below d3;obtain ⟨p0,p1,p2,p3,p4,p5⟩ := c6 k0;rw [hW3] at p0 p1 p2 p3 p4 p5;clear hW3 z3 d3;simp only [bookC]
  go_wp2_with fail
  rw [<- HW3.out];clear HW3 p0 p1 p2 p3 p4 p5;refine (implOpOk_any 6 nm ot at_ va ep _ hn ho (by unfold I64;omega) fa fv fe).mono ?_;rw [hok];rintro e w4 ⟨rfl,b4⟩;replace k0 := (b4.block _ (heap_lt k0)).trans k0;replace k6 := (b4.block _ (heap_lt k6)).trans k6;replace d0 := bw_call d0 b4;replace r0 := (r0.below b4).mono b4.size;replace hv0 := hv0.below b4;clear b4;have HLN : Hid ((bks.map Bk.pb).length = bks.length) := List.length_map _
  obtain ⟨bs,hbs⟩ : ∃ bs,bks.map Bk.pb = bs := ⟨_,rfl⟩
  have HBS : Hid (bks.map Bk.pb = bs) := hbs;rw [hbs] at HFP HBK HLN;clear hbs;have M : ∀ w : World,Calls Tryz.prog 114 #[.int .i64 6] w fun e w' => e = .returned (.bool false) /\ w' = w := fun w => makes_any 6 (by omega) w
  have E : ∀ w : World,Calls Tryz.prog 116 #[.int .i64 6] w fun e w' => e = .returned (.bool true) /\ w' = w := fun w => heedsEpoch_any 6 (by omega) w
  have C : ∀ w : World,Calls Tryz.prog 117 #[.int .i64 6] w fun e w' => e = .returned (.bool false) /\ w' = w := fun w => changesInside_any 6 (by omega) w
  have P : ∀ w : World,Calls Tryz.prog 118 #[.int .i64 6] w fun e w' => e = .returned (.bool false) /\ w' = w := fun w => asksPlace_any 6 (by omega) w
  obtain ⟨p0,p1,p2,p3,p4,p5⟩ := c6 k0;have q1 := at_cell k6 1;have q3 := at_cell k6 3;have q4 := at_cell k6 4;have g2 := hv0.cell 2 (by decide);have g4 := hv0.cell 4 (by decide);by_cases h2 : F < 0
  · skip
    have HV : Hid (refErr ad (refused bs ⟨6,nm,ot,at_,va,ep⟩) = .iface 106 (.agg #[.int .i64 2,.iface 228 (.pointer (some (ad 2)))])) := by
      have e1 : refused bs ⟨6,nm,ot,at_,va,ep⟩ = 2 := by rw [refusI_6,HFP.out,if_pos (by omega)]
      rw [e1];rfl
    clear HFP HFB HBK
    go_wp2_with (first | (go_at_call 114;refine (M _).mono ?_;rintro e w' ⟨rfl,rfl⟩) | (go_at_call 116;refine (E _).mono ?_;rintro e w' ⟨rfl,rfl⟩) | (go_at_call 117;refine (C _).mono ?_;rintro e w' ⟨rfl,rfl⟩) | (go_at_call 118;refine (P _).mono ?_;rintro e w' ⟨rfl,rfl⟩))
    go_ret;exact ⟨ret_val (by rw [HBS.out];exact HV.out.symm),d0⟩
  by_cases h4 : ep < xe
  · skip
    have HV : Hid (refErr ad (refused bs ⟨6,nm,ot,at_,va,ep⟩) = .iface 106 (.agg #[.int .i64 4,.iface 228 (.pointer (some (ad 4)))])) := by
      have e1 : refused bs ⟨6,nm,ot,at_,va,ep⟩ = 4 := by rw [refusI_6,HFP.out,if_neg (by omega),HBK.out (by omega),if_pos (show ep < xe by omega)]
      rw [e1];rfl
    clear HFP HFB HBK
    go_wp2_with (first | (go_at_call 114;refine (M _).mono ?_;rintro e w' ⟨rfl,rfl⟩) | (go_at_call 116;refine (E _).mono ?_;rintro e w' ⟨rfl,rfl⟩) | (go_at_call 117;refine (C _).mono ?_;rintro e w' ⟨rfl,rfl⟩) | (go_at_call 118;refine (P _).mono ?_;rintro e w' ⟨rfl,rfl⟩))
    go_ret;exact ⟨ret_val (by rw [HBS.out];exact HV.out.symm),d0⟩
  have HV : Hid (refErr ad (refused bs ⟨6,nm,ot,at_,va,ep⟩) = .nilIface) := by
    have e1 : refused bs ⟨6,nm,ot,at_,va,ep⟩ = 0 := by rw [refusI_6,HFP.out,if_neg (by omega),HBK.out (by omega),if_neg (show ¬ ep < xe by omega)]
    rw [e1];rfl
  clear HFP HFB HBK
  go_wp2_with (first | (go_at_call 114;refine (M _).mono ?_;rintro e w' ⟨rfl,rfl⟩) | (go_at_call 116;refine (E _).mono ?_;rintro e w' ⟨rfl,rfl⟩) | (go_at_call 117;refine (C _).mono ?_;rintro e w' ⟨rfl,rfl⟩) | (go_at_call 118;refine (P _).mono ?_;rintro e w' ⟨rfl,rfl⟩))
  go_ret;exact ⟨ret_val (by rw [HBS.out];exact HV.out.symm),d0⟩
set_option maxRecDepth 100000 in
set_option maxHeartbeats 6400000 in
theorem refby_7 (vb : Value) (bks : List Bk) (nm ot : ByteArray) (at_ va ep : Int) (w : World) (ad : Nat -> Addr) (hv : Vars w ad) (hn : nm.size <= maxLen) (ho : ot.size <= maxLen) (fa : I64 at_) (fv : I64 va) (fe : I64 ep) (hlen : bks.length <= 6) (hep : ∀ b ∈ bks,b.ep <= 1000) (hms : ∀ b ∈ bks,∃ o k cap,b.m = .slice o k cap) (r : ReadsR 5 bookC w.heap.size w vb bks) (hok : opOk ⟨7,nm,ot,at_,va,ep⟩ = true) :
    Calls Tryz.prog 73 #[vb,.agg #[.int .i64 7,.string nm,.string ot,.int .i64 at_,.int .i64 va,.int .i64 ep]] w fun e w' => e = .returned (refErr ad (refused (bks.map Bk.pb) ⟨7,nm,ot,at_,va,ep⟩)) /\ Below w.heap.size w w' := by
  obtain ⟨ob,cpb,hvb,mb,-,-⟩ := id r;subst hvb;unfold maxLen at mb;obtain ⟨W0,hW0,k0,d0,z0⟩ := box1 w #[.int .i64 7,.string nm,.string ot,.int .i64 at_,.int .i64 va,.int .i64 ep] 26;have HW0 : Hid (W0 = _) := hW0;have HMS : Hid _ := hms;have r0 := (r.below d0).mono d0.size;have hv0 := hv.below d0;have p1 := at_cell k0 1;have hFl := findB_lt bks nm
  obtain ⟨F,hF⟩ : ∃ F,findB bks nm = F := ⟨_,rfl⟩
  have HFB : Hid (findB bks nm = F) := hF;have HFP : Hid (findP (bks.map Bk.pb) nm = F) := by rw [Hid,<- findB_P];exact hF
  have HBK : Hid (0 <= F -> bookAt (bks.map Bk.pb) F = (bkAt bks F).pb) := fun h => bkAt_pb bks F (by omega)
  have hform := bkAt_form bks F hms;rw [hF] at hFl;clear hW0 z0 r hv hms hF
  go_enter Tryz.func73,Tryz.ntmps73
  go_wp2_with fail
  rw [<- HW0.out];clear HW0 p1;refine (implFindBook_any _ bks nm _ HMS.out r0).mono ?_;rw [HFB.out];rintro e w1 ⟨rfl,b1⟩;replace k0 := (b1.block _ (heap_lt k0)).trans k0;replace d0 := bw_call d0 b1;replace r0 := (r0.below b1).mono b1.size;replace hv0 := hv0.below b1;clear b1
  go_wp2_with fail
  refine (bookAt_any _ bks F _ hFl HMS.out r0).mono ?_;rintro e w2 ⟨rfl,b2⟩;replace k0 := (b2.block _ (heap_lt k0)).trans k0;replace d0 := bw_call d0 b2;replace r0 := (r0.below b2).mono b2.size;replace hv0 := hv0.below b2;clear b2
  obtain ⟨x,hx⟩ : ∃ x,bkAt bks F = x := ⟨_,rfl⟩
  rw [hx] at HBK hform ⊢;clear hx;obtain ⟨xn,xs,xm,xr,xf,xe⟩ := x;obtain ⟨ox,kx,cx,hxm⟩ := hform;simp only at hxm;subst hxm;simp only [Bk.pb] at HBK;obtain ⟨W3,hW3,k6,d3,z3⟩ := box1 w2 #[.string xn,.int .i64 xs,.slice ox kx cx,.bool xf,.int .i64 xe] 87;have HW3 : Hid (W3 = _) := hW3;replace k0 := (d3.block _ (heap_lt k0)).trans k0;replace d0 := bw_call d0 d3;replace r0 := (r0.below d3).mono d3.size;replace hv0 := hv0.below d3;obtain ⟨p0,p1,p2,p3,p4,p5⟩ := c6 k0;rw [hW3] at p0 p1 p2 p3 p4 p5;clear hW3 z3 d3;simp only [bookC]
  go_wp2_with fail
  rw [<- HW3.out];clear HW3 p0 p1 p2 p3 p4 p5;refine (implOpOk_any 7 nm ot at_ va ep _ hn ho (by unfold I64;omega) fa fv fe).mono ?_;rw [hok];rintro e w4 ⟨rfl,b4⟩;replace k0 := (b4.block _ (heap_lt k0)).trans k0;replace k6 := (b4.block _ (heap_lt k6)).trans k6;replace d0 := bw_call d0 b4;replace r0 := (r0.below b4).mono b4.size;replace hv0 := hv0.below b4;clear b4;have HLN : Hid ((bks.map Bk.pb).length = bks.length) := List.length_map _
  obtain ⟨bs,hbs⟩ : ∃ bs,bks.map Bk.pb = bs := ⟨_,rfl⟩
  have HBS : Hid (bks.map Bk.pb = bs) := hbs;rw [hbs] at HFP HBK HLN;clear hbs;have M : ∀ w : World,Calls Tryz.prog 114 #[.int .i64 7] w fun e w' => e = .returned (.bool false) /\ w' = w := fun w => makes_any 7 (by omega) w
  have E : ∀ w : World,Calls Tryz.prog 116 #[.int .i64 7] w fun e w' => e = .returned (.bool true) /\ w' = w := fun w => heedsEpoch_any 7 (by omega) w
  have C : ∀ w : World,Calls Tryz.prog 117 #[.int .i64 7] w fun e w' => e = .returned (.bool true) /\ w' = w := fun w => changesInside_any 7 (by omega) w
  have P : ∀ w : World,Calls Tryz.prog 118 #[.int .i64 7] w fun e w' => e = .returned (.bool false) /\ w' = w := fun w => asksPlace_any 7 (by omega) w
  obtain ⟨p0,p1,p2,p3,p4,p5⟩ := c6 k0;have q1 := at_cell k6 1;have q3 := at_cell k6 3;have q4 := at_cell k6 4;have g2 := hv0.cell 2 (by decide);have g4 := hv0.cell 4 (by decide);have g5 := hv0.cell 5 (by decide);by_cases h2 : F < 0
  · skip
    have HV : Hid (refErr ad (refused bs ⟨7,nm,ot,at_,va,ep⟩) = .iface 106 (.agg #[.int .i64 2,.iface 228 (.pointer (some (ad 2)))])) := by
      have e1 : refused bs ⟨7,nm,ot,at_,va,ep⟩ = 2 := by rw [refusI_7,HFP.out,if_pos (by omega)]
      rw [e1];rfl
    clear HFP HFB HBK
    go_wp2_with (first | (go_at_call 114;refine (M _).mono ?_;rintro e w' ⟨rfl,rfl⟩) | (go_at_call 116;refine (E _).mono ?_;rintro e w' ⟨rfl,rfl⟩) | (go_at_call 117;refine (C _).mono ?_;rintro e w' ⟨rfl,rfl⟩) | (go_at_call 118;refine (P _).mono ?_;rintro e w' ⟨rfl,rfl⟩))
    go_ret;exact ⟨ret_val (by rw [HBS.out];exact HV.out.symm),d0⟩
  by_cases h4 : ep < xe
  · skip
    have HV : Hid (refErr ad (refused bs ⟨7,nm,ot,at_,va,ep⟩) = .iface 106 (.agg #[.int .i64 4,.iface 228 (.pointer (some (ad 4)))])) := by
      have e1 : refused bs ⟨7,nm,ot,at_,va,ep⟩ = 4 := by rw [refusI_7,HFP.out,if_neg (by omega),HBK.out (by omega),if_pos (show ep < xe by omega)]
      rw [e1];rfl
    clear HFP HFB HBK
    go_wp2_with (first | (go_at_call 114;refine (M _).mono ?_;rintro e w' ⟨rfl,rfl⟩) | (go_at_call 116;refine (E _).mono ?_;rintro e w' ⟨rfl,rfl⟩) | (go_at_call 117;refine (C _).mono ?_;rintro e w' ⟨rfl,rfl⟩) | (go_at_call 118;refine (P _).mono ?_;rintro e w' ⟨rfl,rfl⟩))
    go_ret;exact ⟨ret_val (by rw [HBS.out];exact HV.out.symm),d0⟩
  cases xf
  case true =>
    have HV : Hid (refErr ad (refused bs ⟨7,nm,ot,at_,va,ep⟩) = .iface 106 (.agg #[.int .i64 5,.iface 228 (.pointer (some (ad 5)))])) := by
      have e1 : refused bs ⟨7,nm,ot,at_,va,ep⟩ = 5 := by rw [refusI_7,HFP.out,if_neg (by omega),HBK.out (by omega),if_neg (show ¬ ep < xe by omega),if_pos rfl]
      rw [e1];rfl
    clear HFP HFB HBK
    go_wp2_with (first | (go_at_call 114;refine (M _).mono ?_;rintro e w' ⟨rfl,rfl⟩) | (go_at_call 116;refine (E _).mono ?_;rintro e w' ⟨rfl,rfl⟩) | (go_at_call 117;refine (C _).mono ?_;rintro e w' ⟨rfl,rfl⟩) | (go_at_call 118;refine (P _).mono ?_;rintro e w' ⟨rfl,rfl⟩))
    go_ret;exact ⟨ret_val (by rw [HBS.out];exact HV.out.symm),d0⟩
  have HV : Hid (refErr ad (refused bs ⟨7,nm,ot,at_,va,ep⟩) = .nilIface) := by
    have e1 : refused bs ⟨7,nm,ot,at_,va,ep⟩ = 0 := by rw [refusI_7,HFP.out,if_neg (by omega),HBK.out (by omega),if_neg (show ¬ ep < xe by omega),if_neg (show ¬ false = true from Bool.false_ne_true)]
    rw [e1];rfl
  clear HFP HFB HBK
  go_wp2_with (first | (go_at_call 114;refine (M _).mono ?_;rintro e w' ⟨rfl,rfl⟩) | (go_at_call 116;refine (E _).mono ?_;rintro e w' ⟨rfl,rfl⟩) | (go_at_call 117;refine (C _).mono ?_;rintro e w' ⟨rfl,rfl⟩) | (go_at_call 118;refine (P _).mono ?_;rintro e w' ⟨rfl,rfl⟩))
  go_ret;exact ⟨ret_val (by rw [HBS.out];exact HV.out.symm),d0⟩
set_option maxRecDepth 100000 in
set_option maxHeartbeats 6400000 in
theorem refby_8 (vb : Value) (bks : List Bk) (nm ot : ByteArray) (at_ va ep : Int) (w : World) (ad : Nat -> Addr) (hv : Vars w ad) (hn : nm.size <= maxLen) (ho : ot.size <= maxLen) (fa : I64 at_) (fv : I64 va) (fe : I64 ep) (hlen : bks.length <= 6) (hep : ∀ b ∈ bks,b.ep <= 1000) (hms : ∀ b ∈ bks,∃ o k cap,b.m = .slice o k cap) (r : ReadsR 5 bookC w.heap.size w vb bks) (hok : opOk ⟨8,nm,ot,at_,va,ep⟩ = true) :
    Calls Tryz.prog 73 #[vb,.agg #[.int .i64 8,.string nm,.string ot,.int .i64 at_,.int .i64 va,.int .i64 ep]] w fun e w' => e = .returned (refErr ad (refused (bks.map Bk.pb) ⟨8,nm,ot,at_,va,ep⟩)) /\ Below w.heap.size w w' := by
  obtain ⟨ob,cpb,hvb,mb,-,-⟩ := id r;subst hvb;unfold maxLen at mb;obtain ⟨W0,hW0,k0,d0,z0⟩ := box1 w #[.int .i64 8,.string nm,.string ot,.int .i64 at_,.int .i64 va,.int .i64 ep] 26;have HW0 : Hid (W0 = _) := hW0;have HMS : Hid _ := hms
  have HEP0 : Hid (0 <= findB bks nm -> (bkAt bks (findB bks nm)).ep <= 1000) := fun h => by
    rw [bkAt,if_neg (by omega),List.getD_eq_getElem?_getD]
    cases hq : bks[(findB bks nm).toNat]? with
    | none => decide
    | some y => exact hep y (List.mem_of_getElem? hq)
  have r0 := (r.below d0).mono d0.size;have hv0 := hv.below d0;have p1 := at_cell k0 1;have hFl := findB_lt bks nm
  obtain ⟨F,hF⟩ : ∃ F,findB bks nm = F := ⟨_,rfl⟩
  have HFB : Hid (findB bks nm = F) := hF;have HFP : Hid (findP (bks.map Bk.pb) nm = F) := by rw [Hid,<- findB_P];exact hF
  have HBK : Hid (0 <= F -> bookAt (bks.map Bk.pb) F = (bkAt bks F).pb) := fun h => bkAt_pb bks F (by omega)
  have hform := bkAt_form bks F hms;rw [hF] at hFl HEP0;clear hW0 z0 r hv hms hF
  go_enter Tryz.func73,Tryz.ntmps73
  go_wp2_with fail
  rw [<- HW0.out];clear HW0 p1;refine (implFindBook_any _ bks nm _ HMS.out r0).mono ?_;rw [HFB.out];rintro e w1 ⟨rfl,b1⟩;replace k0 := (b1.block _ (heap_lt k0)).trans k0;replace d0 := bw_call d0 b1;replace r0 := (r0.below b1).mono b1.size;replace hv0 := hv0.below b1;clear b1
  go_wp2_with fail
  refine (bookAt_any _ bks F _ hFl HMS.out r0).mono ?_;rintro e w2 ⟨rfl,b2⟩;replace k0 := (b2.block _ (heap_lt k0)).trans k0;replace d0 := bw_call d0 b2;replace r0 := (r0.below b2).mono b2.size;replace hv0 := hv0.below b2;clear b2
  obtain ⟨x,hx⟩ : ∃ x,bkAt bks F = x := ⟨_,rfl⟩
  rw [hx] at HBK hform HEP0 ⊢;clear hx;obtain ⟨xn,xs,xm,xr,xf,xe⟩ := x;obtain ⟨ox,kx,cx,hxm⟩ := hform;simp only at hxm;subst hxm;simp only [Bk.pb] at HBK;have HEP : Hid (0 <= F -> xe <= 1000) := HEP0.out;obtain ⟨W3,hW3,k6,d3,z3⟩ := box1 w2 #[.string xn,.int .i64 xs,.slice ox kx cx,.bool xf,.int .i64 xe] 87;have HW3 : Hid (W3 = _) := hW3;replace k0 := (d3.block _ (heap_lt k0)).trans k0;replace d0 := bw_call d0 d3;replace r0 := (r0.below d3).mono d3.size;replace hv0 := hv0.below d3;obtain ⟨p0,p1,p2,p3,p4,p5⟩ := c6 k0;rw [hW3] at p0 p1 p2 p3 p4 p5;clear hW3 z3 d3;simp only [bookC]
  go_wp2_with fail
  rw [<- HW3.out];clear HW3 p0 p1 p2 p3 p4 p5;refine (implOpOk_any 8 nm ot at_ va ep _ hn ho (by unfold I64;omega) fa fv fe).mono ?_;rw [hok];rintro e w4 ⟨rfl,b4⟩;replace k0 := (b4.block _ (heap_lt k0)).trans k0;replace k6 := (b4.block _ (heap_lt k6)).trans k6;replace d0 := bw_call d0 b4;replace r0 := (r0.below b4).mono b4.size;replace hv0 := hv0.below b4;clear b4;have HLN : Hid ((bks.map Bk.pb).length = bks.length) := List.length_map _
  obtain ⟨bs,hbs⟩ : ∃ bs,bks.map Bk.pb = bs := ⟨_,rfl⟩
  have HBS : Hid (bks.map Bk.pb = bs) := hbs;rw [hbs] at HFP HBK HLN;clear hbs;have M : ∀ w : World,Calls Tryz.prog 114 #[.int .i64 8] w fun e w' => e = .returned (.bool false) /\ w' = w := fun w => makes_any 8 (by omega) w
  have E : ∀ w : World,Calls Tryz.prog 116 #[.int .i64 8] w fun e w' => e = .returned (.bool false) /\ w' = w := fun w => heedsEpoch_any 8 (by omega) w
  have C : ∀ w : World,Calls Tryz.prog 117 #[.int .i64 8] w fun e w' => e = .returned (.bool false) /\ w' = w := fun w => changesInside_any 8 (by omega) w
  have P : ∀ w : World,Calls Tryz.prog 118 #[.int .i64 8] w fun e w' => e = .returned (.bool false) /\ w' = w := fun w => asksPlace_any 8 (by omega) w
  obtain ⟨p0,p1,p2,p3,p4,p5⟩ := c6 k0;have q1 := at_cell k6 1;have q3 := at_cell k6 3;have q4 := at_cell k6 4;have g2 := hv0.cell 2 (by decide);have g8 := hv0.cell 8 (by decide);by_cases h2 : F < 0
  · skip
    have HV : Hid (refErr ad (refused bs ⟨8,nm,ot,at_,va,ep⟩) = .iface 106 (.agg #[.int .i64 2,.iface 228 (.pointer (some (ad 2)))])) := by
      have e1 : refused bs ⟨8,nm,ot,at_,va,ep⟩ = 2 := by rw [refusI_8,HFP.out,if_pos (by omega)]
      rw [e1];rfl
    clear HFP HFB HBK
    go_wp2_with (first | (go_at_call 114;refine (M _).mono ?_;rintro e w' ⟨rfl,rfl⟩) | (go_at_call 116;refine (E _).mono ?_;rintro e w' ⟨rfl,rfl⟩) | (go_at_call 117;refine (C _).mono ?_;rintro e w' ⟨rfl,rfl⟩) | (go_at_call 118;refine (P _).mono ?_;rintro e w' ⟨rfl,rfl⟩))
    go_ret;exact ⟨ret_val (by rw [HBS.out];exact HV.out.symm),d0⟩
  by_cases h8 : 1000 <= xe
  · skip
    have hw6 : xe = 1000 := by have := HEP.out (by omega);omega
    have HV : Hid (refErr ad (refused bs ⟨8,nm,ot,at_,va,ep⟩) = .iface 106 (.agg #[.int .i64 8,.iface 228 (.pointer (some (ad 8)))])) := by
      have e1 : refused bs ⟨8,nm,ot,at_,va,ep⟩ = 8 := by rw [refusI_8,HFP.out,if_neg (by omega),HBK.out (by omega),if_pos (show xe = 1000 by omega)]
      rw [e1];rfl
    clear HFP HFB HBK
    go_wp2_with (first | (go_at_call 114;refine (M _).mono ?_;rintro e w' ⟨rfl,rfl⟩) | (go_at_call 116;refine (E _).mono ?_;rintro e w' ⟨rfl,rfl⟩) | (go_at_call 117;refine (C _).mono ?_;rintro e w' ⟨rfl,rfl⟩) | (go_at_call 118;refine (P _).mono ?_;rintro e w' ⟨rfl,rfl⟩))
    go_ret;exact ⟨ret_val (by rw [HBS.out];exact HV.out.symm),d0⟩
  have hw6 : ¬ xe = 1000 := by omega
  have HV : Hid (refErr ad (refused bs ⟨8,nm,ot,at_,va,ep⟩) = .nilIface) := by
    have e1 : refused bs ⟨8,nm,ot,at_,va,ep⟩ = 0 := by rw [refusI_8,HFP.out,if_neg (by omega),HBK.out (by omega),if_neg (show ¬ xe = 1000 by omega)]
    rw [e1];rfl
  clear HFP HFB HBK
  go_wp2_with (first | (go_at_call 114;refine (M _).mono ?_;rintro e w' ⟨rfl,rfl⟩) | (go_at_call 116;refine (E _).mono ?_;rintro e w' ⟨rfl,rfl⟩) | (go_at_call 117;refine (C _).mono ?_;rintro e w' ⟨rfl,rfl⟩) | (go_at_call 118;refine (P _).mono ?_;rintro e w' ⟨rfl,rfl⟩))
  go_ret;exact ⟨ret_val (by rw [HBS.out];exact HV.out.symm),d0⟩
set_option maxRecDepth 100000 in
set_option maxHeartbeats 6400000 in
theorem refby_9 (vb : Value) (bks : List Bk) (nm ot : ByteArray) (at_ va ep : Int) (w : World) (ad : Nat -> Addr) (hv : Vars w ad) (hn : nm.size <= maxLen) (ho : ot.size <= maxLen) (fa : I64 at_) (fv : I64 va) (fe : I64 ep) (hlen : bks.length <= 6) (hep : ∀ b ∈ bks,b.ep <= 1000) (hms : ∀ b ∈ bks,∃ o k cap,b.m = .slice o k cap) (r : ReadsR 5 bookC w.heap.size w vb bks) (hok : opOk ⟨9,nm,ot,at_,va,ep⟩ = true) :
    Calls Tryz.prog 73 #[vb,.agg #[.int .i64 9,.string nm,.string ot,.int .i64 at_,.int .i64 va,.int .i64 ep]] w fun e w' => e = .returned (refErr ad (refused (bks.map Bk.pb) ⟨9,nm,ot,at_,va,ep⟩)) /\ Below w.heap.size w w' := by
  obtain ⟨ob,cpb,hvb,mb,-,-⟩ := id r;subst hvb;unfold maxLen at mb;obtain ⟨W0,hW0,k0,d0,z0⟩ := box1 w #[.int .i64 9,.string nm,.string ot,.int .i64 at_,.int .i64 va,.int .i64 ep] 26;have HW0 : Hid (W0 = _) := hW0;have HMS : Hid _ := hms;have r0 := (r.below d0).mono d0.size;have hv0 := hv.below d0;have p1 := at_cell k0 1;have hFl := findB_lt bks nm
  obtain ⟨F,hF⟩ : ∃ F,findB bks nm = F := ⟨_,rfl⟩
  have HFB : Hid (findB bks nm = F) := hF;have HFP : Hid (findP (bks.map Bk.pb) nm = F) := by rw [Hid,<- findB_P];exact hF
  have HBK : Hid (0 <= F -> bookAt (bks.map Bk.pb) F = (bkAt bks F).pb) := fun h => bkAt_pb bks F (by omega)
  have hform := bkAt_form bks F hms;rw [hF] at hFl;clear hW0 z0 r hv hms hF
  go_enter Tryz.func73,Tryz.ntmps73
  go_wp2_with fail
  rw [<- HW0.out];clear HW0 p1;refine (implFindBook_any _ bks nm _ HMS.out r0).mono ?_;rw [HFB.out];rintro e w1 ⟨rfl,b1⟩;replace k0 := (b1.block _ (heap_lt k0)).trans k0;replace d0 := bw_call d0 b1;replace r0 := (r0.below b1).mono b1.size;replace hv0 := hv0.below b1;clear b1
  go_wp2_with fail
  refine (bookAt_any _ bks F _ hFl HMS.out r0).mono ?_;rintro e w2 ⟨rfl,b2⟩;replace k0 := (b2.block _ (heap_lt k0)).trans k0;replace d0 := bw_call d0 b2;replace r0 := (r0.below b2).mono b2.size;replace hv0 := hv0.below b2;clear b2
  obtain ⟨x,hx⟩ : ∃ x,bkAt bks F = x := ⟨_,rfl⟩
  rw [hx] at HBK hform ⊢;clear hx;obtain ⟨xn,xs,xm,xr,xf,xe⟩ := x;obtain ⟨ox,kx,cx,hxm⟩ := hform;simp only at hxm;subst hxm;simp only [Bk.pb] at HBK;obtain ⟨W3,hW3,k6,d3,z3⟩ := box1 w2 #[.string xn,.int .i64 xs,.slice ox kx cx,.bool xf,.int .i64 xe] 87;have HW3 : Hid (W3 = _) := hW3;replace k0 := (d3.block _ (heap_lt k0)).trans k0;replace d0 := bw_call d0 d3;replace r0 := (r0.below d3).mono d3.size;replace hv0 := hv0.below d3;obtain ⟨p0,p1,p2,p3,p4,p5⟩ := c6 k0;rw [hW3] at p0 p1 p2 p3 p4 p5;clear hW3 z3 d3;simp only [bookC]
  go_wp2_with fail
  rw [<- HW3.out];clear HW3 p0 p1 p2 p3 p4 p5;refine (implOpOk_any 9 nm ot at_ va ep _ hn ho (by unfold I64;omega) fa fv fe).mono ?_;rw [hok];rintro e w4 ⟨rfl,b4⟩;replace k0 := (b4.block _ (heap_lt k0)).trans k0;replace k6 := (b4.block _ (heap_lt k6)).trans k6;replace d0 := bw_call d0 b4;replace r0 := (r0.below b4).mono b4.size;replace hv0 := hv0.below b4;clear b4;have HLN : Hid ((bks.map Bk.pb).length = bks.length) := List.length_map _
  obtain ⟨bs,hbs⟩ : ∃ bs,bks.map Bk.pb = bs := ⟨_,rfl⟩
  have HBS : Hid (bks.map Bk.pb = bs) := hbs;rw [hbs] at HFP HBK HLN;clear hbs;have M : ∀ w : World,Calls Tryz.prog 114 #[.int .i64 9] w fun e w' => e = .returned (.bool false) /\ w' = w := fun w => makes_any 9 (by omega) w
  have E : ∀ w : World,Calls Tryz.prog 116 #[.int .i64 9] w fun e w' => e = .returned (.bool false) /\ w' = w := fun w => heedsEpoch_any 9 (by omega) w
  have C : ∀ w : World,Calls Tryz.prog 117 #[.int .i64 9] w fun e w' => e = .returned (.bool false) /\ w' = w := fun w => changesInside_any 9 (by omega) w
  have P : ∀ w : World,Calls Tryz.prog 118 #[.int .i64 9] w fun e w' => e = .returned (.bool true) /\ w' = w := fun w => asksPlace_any 9 (by omega) w
  obtain ⟨p0,p1,p2,p3,p4,p5⟩ := c6 k0;have q1 := at_cell k6 1;have q3 := at_cell k6 3;have q4 := at_cell k6 4;have g2 := hv0.cell 2 (by decide);have g6 := hv0.cell 6 (by decide);by_cases h2 : F < 0
  · skip
    have HV : Hid (refErr ad (refused bs ⟨9,nm,ot,at_,va,ep⟩) = .iface 106 (.agg #[.int .i64 2,.iface 228 (.pointer (some (ad 2)))])) := by
      have e1 : refused bs ⟨9,nm,ot,at_,va,ep⟩ = 2 := by rw [refusI_9,HFP.out,if_pos (by omega)]
      rw [e1];rfl
    clear HFP HFB HBK
    go_wp2_with (first | (go_at_call 114;refine (M _).mono ?_;rintro e w' ⟨rfl,rfl⟩) | (go_at_call 116;refine (E _).mono ?_;rintro e w' ⟨rfl,rfl⟩) | (go_at_call 117;refine (C _).mono ?_;rintro e w' ⟨rfl,rfl⟩) | (go_at_call 118;refine (P _).mono ?_;rintro e w' ⟨rfl,rfl⟩))
    go_ret;exact ⟨ret_val (by rw [HBS.out];exact HV.out.symm),d0⟩
  by_cases h6 : xs <= at_
  · skip
    have HV : Hid (refErr ad (refused bs ⟨9,nm,ot,at_,va,ep⟩) = .iface 106 (.agg #[.int .i64 6,.iface 228 (.pointer (some (ad 6)))])) := by
      have e1 : refused bs ⟨9,nm,ot,at_,va,ep⟩ = 6 := by rw [refusI_9,HFP.out,if_neg (by omega),HBK.out (by omega),if_pos (show xs <= at_ by omega)]
      rw [e1];rfl
    clear HFP HFB HBK
    go_wp2_with (first | (go_at_call 114;refine (M _).mono ?_;rintro e w' ⟨rfl,rfl⟩) | (go_at_call 116;refine (E _).mono ?_;rintro e w' ⟨rfl,rfl⟩) | (go_at_call 117;refine (C _).mono ?_;rintro e w' ⟨rfl,rfl⟩) | (go_at_call 118;refine (P _).mono ?_;rintro e w' ⟨rfl,rfl⟩))
    go_ret;exact ⟨ret_val (by rw [HBS.out];exact HV.out.symm),d0⟩
  have hA2 : ¬ xs <= at_ := h6
  have HV : Hid (refErr ad (refused bs ⟨9,nm,ot,at_,va,ep⟩) = .nilIface) := by
    have e1 : refused bs ⟨9,nm,ot,at_,va,ep⟩ = 0 := by rw [refusI_9,HFP.out,if_neg (by omega),HBK.out (by omega),if_neg (show ¬ xs <= at_ by omega)]
    rw [e1];rfl
  clear HFP HFB HBK
  go_wp2_with (first | (go_at_call 114;refine (M _).mono ?_;rintro e w' ⟨rfl,rfl⟩) | (go_at_call 116;refine (E _).mono ?_;rintro e w' ⟨rfl,rfl⟩) | (go_at_call 117;refine (C _).mono ?_;rintro e w' ⟨rfl,rfl⟩) | (go_at_call 118;refine (P _).mono ?_;rintro e w' ⟨rfl,rfl⟩))
  go_ret;exact ⟨ret_val (by rw [HBS.out];exact HV.out.symm),d0⟩
set_option maxRecDepth 100000 in
set_option maxHeartbeats 6400000 in
theorem refby_bad (k : Int) (fk : I64 k) (vb : Value) (bks : List Bk) (nm ot : ByteArray) (at_ va ep : Int) (w : World) (ad : Nat -> Addr) (hv : Vars w ad) (hn : nm.size <= maxLen) (ho : ot.size <= maxLen) (fa : I64 at_) (fv : I64 va) (fe : I64 ep) (hlen : bks.length <= 6) (hep : ∀ b ∈ bks,b.ep <= 1000) (hms : ∀ b ∈ bks,∃ o k cap,b.m = .slice o k cap) (r : ReadsR 5 bookC w.heap.size w vb bks) (hok : opOk ⟨k,nm,ot,at_,va,ep⟩ = false) :
    Calls Tryz.prog 73 #[vb,.agg #[.int .i64 k,.string nm,.string ot,.int .i64 at_,.int .i64 va,.int .i64 ep]] w fun e w' => e = .returned (refErr ad 1) /\ Below w.heap.size w w' := by
  obtain ⟨ob,cpb,hvb,mb,-,-⟩ := id r;subst hvb;unfold maxLen at mb;obtain ⟨W0,hW0,k0,d0,z0⟩ := box1 w #[.int .i64 k,.string nm,.string ot,.int .i64 at_,.int .i64 va,.int .i64 ep] 26;have HW0 : Hid (W0 = _) := hW0;have HMS : Hid _ := hms;have r0 := (r.below d0).mono d0.size;have hv0 := hv.below d0;have p1 := at_cell k0 1;have hFl := findB_lt bks nm
  obtain ⟨F,hF⟩ : ∃ F,findB bks nm = F := ⟨_,rfl⟩
  have HFB : Hid (findB bks nm = F) := hF;have HFP : Hid (findP (bks.map Bk.pb) nm = F) := by rw [Hid,<- findB_P];exact hF
  have HBK : Hid (0 <= F -> bookAt (bks.map Bk.pb) F = (bkAt bks F).pb) := fun h => bkAt_pb bks F (by omega)
  have hform := bkAt_form bks F hms;rw [hF] at hFl;clear hW0 z0 r hv hms hF
  go_enter Tryz.func73,Tryz.ntmps73
  go_wp2_with fail
  rw [<- HW0.out];clear HW0 p1;refine (implFindBook_any _ bks nm _ HMS.out r0).mono ?_;rw [HFB.out];rintro e w1 ⟨rfl,b1⟩;replace k0 := (b1.block _ (heap_lt k0)).trans k0;replace d0 := bw_call d0 b1;replace r0 := (r0.below b1).mono b1.size;replace hv0 := hv0.below b1;clear b1
  go_wp2_with fail
  refine (bookAt_any _ bks F _ hFl HMS.out r0).mono ?_;rintro e w2 ⟨rfl,b2⟩;replace k0 := (b2.block _ (heap_lt k0)).trans k0;replace d0 := bw_call d0 b2;replace r0 := (r0.below b2).mono b2.size;replace hv0 := hv0.below b2;clear b2
  obtain ⟨x,hx⟩ : ∃ x,bkAt bks F = x := ⟨_,rfl⟩
  rw [hx] at HBK hform ⊢;clear hx;obtain ⟨xn,xs,xm,xr,xf,xe⟩ := x;obtain ⟨ox,kx,cx,hxm⟩ := hform;simp only at hxm;subst hxm;simp only [Bk.pb] at HBK;obtain ⟨W3,hW3,k6,d3,z3⟩ := box1 w2 #[.string xn,.int .i64 xs,.slice ox kx cx,.bool xf,.int .i64 xe] 87;have HW3 : Hid (W3 = _) := hW3;replace k0 := (d3.block _ (heap_lt k0)).trans k0;replace d0 := bw_call d0 d3;replace r0 := (r0.below d3).mono d3.size;replace hv0 := hv0.below d3;obtain ⟨p0,p1,p2,p3,p4,p5⟩ := c6 k0;rw [hW3] at p0 p1 p2 p3 p4 p5;clear hW3 z3 d3;simp only [bookC]
  go_wp2_with fail
  rw [<- HW3.out];clear HW3 p0 p1 p2 p3 p4 p5;refine (implOpOk_any k nm ot at_ va ep _ hn ho fk fa fv fe).mono ?_;rw [hok];rintro e w4 ⟨rfl,b4⟩;replace k0 := (b4.block _ (heap_lt k0)).trans k0;replace k6 := (b4.block _ (heap_lt k6)).trans k6;replace d0 := bw_call d0 b4;replace r0 := (r0.below b4).mono b4.size;replace hv0 := hv0.below b4;clear b4;have g1 := hv0.cell 1 (by decide);clear HFP HFB HBK k0 k6
  go_wp2_with fail
  go_ret;exact ⟨rfl,d0⟩
def refCode (bs : List Pb) (o : Oq) : Int := if opOk o = false then 1 else refused bs o
theorem refusedBy_any (k : Int) (fk : I64 k) (vb : Value) (bks : List Bk) (nm ot : ByteArray) (at_ va ep : Int) (w : World) (ad : Nat -> Addr) (hv : Vars w ad) (hn : nm.size <= maxLen) (ho : ot.size <= maxLen) (fa : I64 at_) (fv : I64 va) (fe : I64 ep) (hlen : bks.length <= 6) (hep : ∀ b ∈ bks,b.ep <= 1000) (hms : ∀ b ∈ bks,∃ o k cap,b.m = .slice o k cap) (r : ReadsR 5 bookC w.heap.size w vb bks) :
    Calls Tryz.prog 73 #[vb,.agg #[.int .i64 k,.string nm,.string ot,.int .i64 at_,.int .i64 va,.int .i64 ep]] w fun e w' => e = .returned (refErr ad (refCode (bks.map Bk.pb) ⟨k,nm,ot,at_,va,ep⟩)) /\ Below w.heap.size w w' := by
  cases hok : opOk ⟨k,nm,ot,at_,va,ep⟩
  · rw [refCode,if_pos hok]
    exact refby_bad k fk vb bks nm ot at_ va ep w ad hv hn ho fa fv fe hlen hep hms r hok
  · rw [refCode,if_neg (by rw [hok];decide)]
    have hk : 1 <= k /\ k <= 9 := (op_parts hok).2.1;have h : k = 1 \/ k = 2 \/ k = 3 \/ k = 4 \/ k = 5 \/ k = 6 \/ k = 7 \/ k = 8 \/ k = 9 := by omega
    rcases h with rfl | rfl | rfl | rfl | rfl | rfl | rfl | rfl | rfl
    · exact refby_1 vb bks nm ot at_ va ep w ad hv hn ho fa fv fe hlen hep hms r hok
    · exact refby_2 vb bks nm ot at_ va ep w ad hv hn ho fa fv fe hlen hep hms r hok
    · exact refby_3 vb bks nm ot at_ va ep w ad hv hn ho fa fv fe hlen hep hms r hok
    · exact refby_4 vb bks nm ot at_ va ep w ad hv hn ho fa fv fe hlen hep hms r hok
    · exact refby_5 vb bks nm ot at_ va ep w ad hv hn ho fa fv fe hlen hep hms r hok
    · exact refby_6 vb bks nm ot at_ va ep w ad hv hn ho fa fv fe hlen hep hms r hok
    · exact refby_7 vb bks nm ot at_ va ep w ad hv hn ho fa fv fe hlen hep hms r hok
    · exact refby_8 vb bks nm ot at_ va ep w ad hv hn ho fa fv fe hlen hep hms r hok
    · exact refby_9 vb bks nm ot at_ va ep w ad hv hn ho fa fv fe hlen hep hms r hok
end Go.Proofs.YtcefcglonooelaaGreatDoor
