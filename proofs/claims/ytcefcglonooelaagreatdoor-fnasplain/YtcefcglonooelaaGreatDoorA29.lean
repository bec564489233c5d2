import Derived.Test.YtcefcglonooelaaGreatDoorA03
import Derived.Test.YtcefcglonooelaaGreatDoorA04
import Derived.Test.YtcefcglonooelaaGreatDoorA06
import Derived.Test.YtcefcglonooelaaGreatDoorA15
namespace Go.Proofs.YtcefcglonooelaaGreatDoor
open Go.RowKit
set_option linter.unusedVariables false
set_option maxRecDepth 100000
theorem hasName_in (nm : ByteArray) (sz : Int) (m : Value) (fx : Bool) (ep : Int) (n : ByteArray) (c : Nat) (w : World) (hm : ∃ o k cap,m = .slice o k cap) (hc : c < w.heap.size) (hn : w.cell? ⟨c,0,none⟩ = some (.string n)) :
    Calls Tryz.prog 154 #[.agg #[.string nm,.int .i64 sz,m,.bool fx,.int .i64 ep],.pointer (some ⟨c,0,none⟩)] w fun e w' => e = .returned (.bool (decide (nm = n))) /\ Below w.heap.size w w' := by
  obtain ⟨o,k,cap,rfl⟩ := hm;obtain ⟨W0,hW0,k0,d0,z0⟩ := box1 w #[.string nm,.int .i64 sz,.slice o k cap,.bool fx,.int .i64 ep] 87;have HW0 : Hid (W0 = _) := hW0;have p0 := at_cell k0 0;have c0 := (d0.cell (p := ⟨c,0,none⟩) hc).trans hn;rw [hW0] at p0 c0;have hq := text_eq nm n;clear hW0 k0
  go_enter Tryz.func154,Tryz.ntmps154
  go_wp2_with fail
  go_ret;exact ⟨rfl,by rw [<- HW0.out];exact d0⟩
set_option maxHeartbeats 1600000 in
theorem indexBook_any (v : Value) (bs : List Bk) (n : ByteArray) (c : Nat) (w : World) (hms : ∀ b ∈ bs,∃ o k cap,b.m = .slice o k cap) (r : ReadsR 5 bookC w.heap.size w v bs) (hc : c < w.heap.size) (hn : w.cell? ⟨c,0,none⟩ = some (.string n)) :
    Calls Tryz.prog 124 #[v,.func (.func 154) #[] #[.pointer (some ⟨c,0,none⟩)]] w fun e w' => e = .returned (.int .i64 (findB bs n)) /\ Below w.heap.size w w' := by
  obtain ⟨o,cap,rfl,hm,hcs,-⟩ := r;have HC : Hid _ := hcs;have HM : Hid _ := hms;unfold maxLen at hm;clear hcs hms
  go_enter Tryz.func124,Tryz.ntmps124
  go_wp2_with fail
  go_loopw [8] (fun i wr => ∃ k : Nat,k <= bs.length /\ i = .int .i64 k /\ findB bs n = findFrom n ((bs.map Bk.nm).drop k) k /\ Below w.heap.size w wr) (fun i _ => bs.length - (intOf i).toNat)
  case atStart => exact ⟨0,Nat.zero_le _,rfl,rfl,Below.refl _ _⟩
  case round =>
    obtain ⟨k,hk,rfl,hf,hb⟩ := hrel;by_cases hlt : k < bs.length
    · obtain ⟨g,off,rfl,hg,hx⟩ := HC.out k bs[k] (List.getElem?_eq_getElem hlt)
      rw [find_at bs n k hlt] at hf;have HF : Hid _ := hf;have a0 := (hb.cell (p := ⟨g,off + k * 5,none⟩) hg).trans (hx 0 _ rfl);have a1 := (hb.cell (p := ⟨g,off + k * 5 + 1,none⟩) hg).trans (hx 1 _ rfl);have a2 := (hb.cell (p := ⟨g,off + k * 5 + 2,none⟩) hg).trans (hx 2 _ rfl);have a3 := (hb.cell (p := ⟨g,off + k * 5 + 3,none⟩) hg).trans (hx 3 _ rfl);have a4 := (hb.cell (p := ⟨g,off + k * 5 + 4,none⟩) hg).trans (hx 4 _ rfl);have hsl := HM.out bs[k] (List.getElem_mem hlt);have cn := (hb.cell (p := ⟨c,0,none⟩) hc).trans hn;have hcl := Nat.lt_of_lt_of_le hc hb.size;clear hf HC HM hx;generalize bs[k] = x at a0 a1 a2 a3 a4 HF hsl;obtain ⟨nm,sz,m,rs,fx,ep⟩ := x;simp only at a0 a1 a2 a3 a4 HF hsl;obtain ⟨o',k',cap',rfl⟩ := hsl
      go_wp2_with (go_at_call 154;refine (hasName_in nm sz _ fx ep n c _ ⟨_,_,_,rfl⟩ hcl cn).mono ?_)
      rintro e w1 ⟨rfl,b1⟩;replace hb := bw_call hb b1;clear a0 a1 a2 a3 a4 b1 cn hcl;by_cases hx : nm = n
      · have HV : Hid (findB bs n = k) := by have := HF.out;rwa [if_pos hx] at this
        rw [decide_eq_true hx];clear HF hx
        go_wp2_with fail
        go_ret;exact ⟨ret_int HV.out.symm,hb⟩
      · have HV : Hid (findB bs n = findFrom n ((bs.map Bk.nm).drop (k + 1)) (k + 1)) := by have := HF.out;rwa [if_neg hx] at this
        rw [decide_eq_false hx];clear HF hx
        go_wp2_with fail
        go_roundw
        case rel => exact ⟨k + 1,by omega,by go_num,HV.out,hb⟩
        case measure => simp [intOf];omega
    · rw [find_end bs n k hlt] at hf
      have HF : Hid _ := hf;clear hf HC
      go_wp2_with fail
      go_ret;exact ⟨ret_int HF.out.symm,hb⟩
theorem hasName_any (n : ByteArray) (w : World) :
    Calls Tryz.prog 125 #[.string n] w fun e w' => e = .returned (.func (.func 154) #[] #[.pointer (some ⟨w.heap.size,0,none⟩)]) /\ w' = w.alloc (.cells #[.string n] 9) := by
  have hmf : ∀ (fn : Fn) (first cap : Array Value) (w : World),(Instr.makeFunc fn first cap).run Tryz.prog w = .ok (.func fn first cap) w := fun _ _ _ _ => rfl
  go_enter Tryz.func125,Tryz.ntmps125
  go_wp2_with fail
  go_ret;exact ⟨rfl,rfl⟩
theorem implFindBook_any (v : Value) (bs : List Bk) (n : ByteArray) (w : World) (hms : ∀ b ∈ bs,∃ o k cap,b.m = .slice o k cap) (r : ReadsR 5 bookC w.heap.size w v bs) :
    Calls Tryz.prog 76 #[v,.string n] w fun e w' => e = .returned (.int .i64 (findB bs n)) /\ Below w.heap.size w w' := by
  obtain ⟨W0,hW0,k0,d0,z0⟩ := box1 w #[.string n] 9;have r0 := (r.below d0).mono d0.size;have p0 := at_cell k0 0;have hlt := heap_lt k0;have HM : Hid _ := hms;clear k0 r hms
  go_enter Tryz.func76,Tryz.ntmps76
  go_wp2_with fail
  refine (hasName_any n _).mono ?_;rintro e w1 ⟨rfl,h1⟩;rw [<- hW0] at h1;subst h1;clear hW0
  go_wp2_with fail
  refine (indexBook_any v bs n _ _ HM.out r0 hlt p0).mono ?_;rintro e w2 ⟨rfl,b2⟩
  go_wp2_with fail
  go_ret;exact ⟨rfl,bw_call d0 b2⟩
end Go.Proofs.YtcefcglonooelaaGreatDoor
namespace Go.Proofs.YtcefcglonooelaaGreatDoor
open Nums
set_option linter.unusedVariables false
set_option maxRecDepth 100000
def lmAt (k : Int) : Int := if kAt k = true then 255 else 0
def lmLo (k : Int) : Int := if kSize k = true then 1 else 0
def lmHi (k : Int) : Int := if kSize k = true then 16 else if k = 2 then 999 else 0
def lmEp (k : Int) : Int := if kEpoch k = true then 1000 else 0
def otOk (ot : ByteArray) (h : Bool) : Bool := if h = true then nameB ot.data.toList else decide (ot.size = 0)
def opBy (o : Oq) : Bool :=
  inB o.k 1 9 && nameB o.nm.data.toList && otOk o.ot (kOther o.k) && inB o.at_ 0 (lmAt o.k) && inB o.va (lmLo o.k) (lmHi o.k) && inB o.ep 0 (lmEp o.k)
theorem inB_zero (x : Int) : inB x 0 0 = decide (x = 0) := by
  rw [Bool.eq_iff_iff,inB_iff,decide_eq_true_eq];omega
theorem inB_or (b : Bool) (x hi : Int) (h : 0 <= hi) : ((b || decide (x = 0)) && inB x 0 hi) = inB x 0 (if b = true then hi else 0) := by
  cases b
  · rw [Bool.eq_iff_iff]
    simp only [Bool.false_or,Bool.and_eq_true,inB_iff,decide_eq_true_eq,Bool.false_eq_true,if_false]
    omega
  · simp
theorem ot_by (ot : ByteArray) (b : Bool) : ((b == decide (ot.size ≠ 0)) && (!b || nameB ot.data.toList)) = otOk ot b := by
  cases b
  · simp [otOk]
  · unfold otOk
    rw [if_pos rfl];cases h : nameB ot.data.toList
    · simp
    · have := nameB_size ot h
      have e : decide (ot.size ≠ 0) = true := by simp only [decide_eq_true_eq];omega
      rw [e]
      rfl
theorem val_by (k va : Int) : valOk k va = inB va (lmLo k) (lmHi k) := by
  unfold valOk lmLo lmHi
  split
  · rfl
  · split
    · rfl
    · exact (inB_zero va).symm
theorem opOk_by (o : Oq) : opOk o = opBy o := by
  have h1 := ot_by o.ot (kOther o.k);have h2 := inB_or (kAt o.k) o.at_ 255 (by omega);have h3 := inB_or (kEpoch o.k) o.ep 1000 (by omega);have h4 := val_by o.k o.va
  have e : opOk o = (nameB o.nm.data.toList && inB o.k 1 9 && ((kOther o.k == decide (o.ot.size ≠ 0)) && (!kOther o.k || nameB o.ot.data.toList)) && ((kAt o.k || decide (o.at_ = 0)) && inB o.at_ 0 255) && ((kEpoch o.k || decide (o.ep = 0)) && inB o.ep 0 1000) && valOk o.k o.va) := by
    unfold opOk;simp only [Bool.and_assoc]
  rw [e,h1,h2,h3,h4];unfold opBy lmAt lmEp;generalize nameB o.nm.data.toList = a;generalize inB o.k 1 9 = b;generalize otOk o.ot (kOther o.k) = c;generalize inB o.at_ 0 _ = d;generalize inB o.ep 0 _ = e;generalize inB o.va _ _ = f;cases a <;> cases b <;> cases c <;> cases d <;> cases e <;> cases f <;> rfl
end Go.Proofs.YtcefcglonooelaaGreatDoor
namespace Go.Proofs.YtcefcglonooelaaGreatDoor
open Go.RowKit
set_option linter.unusedVariables false
set_option maxRecDepth 100000
theorem within_any (x lo hi : Int) (w : World) :
    Calls Tryz.prog 150 #[.int .i64 x,.int .i64 lo,.int .i64 hi] w fun e w' => e = .returned (.bool (inB x lo hi)) /\ w' = w := by
  by_cases h : lo <= x
  · go_enter Tryz.func150,Tryz.ntmps150
    go_wp2
    go_ret;exact ⟨ret_bool (by simp [inB,h]),rfl⟩
  · go_enter Tryz.func150,Tryz.ntmps150
    go_wp2
    go_ret;exact ⟨ret_bool (by simp [inB];omega),rfl⟩
theorem otherOk_any (ot : ByteArray) (b : Bool) (w : World) (ho : ot.size <= maxLen) :
    Calls Tryz.prog 149 #[.string ot,.bool b] w fun e w' => e = .returned (.bool (otOk ot b)) /\ w' = w := by
  cases b
  · have HE : Hid (_ = _) := text_nil ot
    have HV : Hid (otOk ot false = decide (ot.size = 0)) := by simp [Hid,otOk]
    go_enter Tryz.func149,Tryz.ntmps149
    go_wp2_with fail
    go_ret;exact ⟨ret_bool (by rw [HV.out,<- HE.out];simp),rfl⟩
  · have HV : Hid (otOk ot true = Nums.nameB ot.data.toList) := by simp [Hid,otOk]
    go_enter Tryz.func149,Tryz.ntmps149
    go_wp2_with fail
    refine (implName_any ot _ ho).mono ?_;rintro e w' ⟨rfl,rfl⟩
    go_wp2_with fail
    go_ret;exact ⟨ret_bool HV.out.symm,rfl⟩
def limV (k : Int) : Value := .tuple #[.agg #[.bool (kOther k),.int .i64 (lmAt k),.int .i64 (lmLo k),.int .i64 (lmHi k),.int .i64 (lmEp k)],.bool (inB k 1 9)]
theorem limits_in (k : Int) (w : World) (h : k = 1 \/ k = 2 \/ k = 3 \/ k = 4 \/ k = 5 \/ k = 6 \/ k = 7 \/ k = 8 \/ k = 9) :
    Calls Tryz.prog 148 #[.int .i64 k] w fun e w' => e = .returned (limV k) /\ Below w.heap.size w w' := by
  rcases h with rfl | rfl | rfl | rfl | rfl | rfl | rfl | rfl | rfl
  all_goals
    go_enter Tryz.func148,Tryz.ntmps148
    go_wp2_with fail
    exact bodyPost_ret (v := limV _) (by simp [results,Tryz.results148,go_sem];rfl) rfl ⟨rfl,by go_grown⟩
theorem limits_out (k : Int) (w : World) (h : ¬ (1 <= k /\ k <= 9)) :
    Calls Tryz.prog 148 #[.int .i64 k] w fun e w' => e = .returned (limV k) /\ Below w.heap.size w w' := by
  have n1 : ¬ k = 1 := by omega
  have n2 : ¬ k = 2 := by omega
  have n3 : ¬ k = 3 := by omega
  have n4 : ¬ k = 4 := by omega
  have n5 : ¬ k = 5 := by omega
  have n6 : ¬ k = 6 := by omega
  have n7 : ¬ k = 7 := by omega
  have n8 : ¬ k = 8 := by omega
  have n9 : ¬ k = 9 := by omega
  have HV : Hid (limV k = .tuple #[.agg #[.bool false,.int .i64 0,.int .i64 0,.int .i64 0,.int .i64 0],.bool false]) := by
    have e : inB k 1 9 = false := by rw [Bool.eq_false_iff,ne_eq,inB_iff];exact h
    unfold limV;rw [Hid,e];simp [lmAt,lmLo,lmHi,lmEp,kAt,kSize,kEpoch,kOther, *]
  go_enter Tryz.func148,Tryz.ntmps148
  go_wp2_with fail
  exact bodyPost_ret (v := .tuple #[.agg #[.bool false,.int .i64 0,.int .i64 0,.int .i64 0,.int .i64 0],.bool false]) (by simp [results,Tryz.results148,go_sem]) rfl ⟨by rw [HV.out],by go_grown⟩
theorem limits_any (k : Int) (w : World) :
    Calls Tryz.prog 148 #[.int .i64 k] w fun e w' => e = .returned (limV k) /\ Below w.heap.size w w' := by
  by_cases h : 1 <= k /\ k <= 9
  · exact limits_in k w (by omega)
  · exact limits_out k w h
set_option maxHeartbeats 1600000 in
theorem implOpOk_any (k : Int) (nm ot : ByteArray) (at_ va ep : Int) (w : World) (hn : nm.size <= maxLen) (ho : ot.size <= maxLen) (fk : I64 k) (fa : I64 at_) (fv : I64 va) (fe : I64 ep) :
    Calls Tryz.prog 113 #[.agg #[.int .i64 k,.string nm,.string ot,.int .i64 at_,.int .i64 va,.int .i64 ep]] w fun e w' => e = .returned (.bool (opOk ⟨k,nm,ot,at_,va,ep⟩)) /\ Below w.heap.size w w' := by
  rw [opOk_by];obtain ⟨W0,hW0,k0,d0,z0⟩ := box1 w #[.int .i64 k,.string nm,.string ot,.int .i64 at_,.int .i64 va,.int .i64 ep] 26;have HW0 : Hid (W0 = _) := hW0;have s0 := heap_lt k0;have p0 := at_cell k0 0;clear hW0 z0
  go_enter Tryz.func113,Tryz.ntmps113
  go_wp2_with fail
  rw [<- HW0.out];clear HW0 p0;refine (limits_any k _).mono ?_;unfold limV;rintro e w1 ⟨rfl,b1⟩;replace k0 := (b1.block _ s0).trans k0;replace d0 := bw_call d0 b1;have t0 := heap_lt k0;have o1 := at_cell k0 1;obtain ⟨W1,hW1,k1,d1,z1⟩ := box1 w1 #[.bool (kOther k),.int .i64 (lmAt k),.int .i64 (lmLo k),.int .i64 (lmHi k),.int .i64 (lmEp k)] 181;have HW1 : Hid (W1 = _) := hW1;replace k0 := (d1.block _ t0).trans k0;replace d0 := bw_call d0 d1;have p1 := at_cell k0 1;have p2 := at_cell k0 2;have p3 := at_cell k0 3;have p4 := at_cell k0 4;have p5 := at_cell k0 5;have r0 := at_cell k1 0;have r1 := at_cell k1 1;have r2 := at_cell k1 2;have r3 := at_cell k1 3;have r4 := at_cell k1 4;have HB : Hid (opBy ⟨k,nm,ot,at_,va,ep⟩ = (inB k 1 9 && Nums.nameB nm.data.toList && otOk ot (kOther k) && inB at_ 0 (lmAt k) && inB va (lmLo k) (lmHi k) && inB ep 0 (lmEp k))) := rfl;clear b1 d1 z1 hW1 k0 k1 s0;generalize kOther k = x0 at *;generalize lmAt k = x1 at *;generalize lmLo k = x2 at *;generalize lmHi k = x3 at *;generalize lmEp k = x4 at *;generalize inB k 1 9 = c0 at *;cases c0
  · go_wp2_with fail
    rw [<- HW1.out];clear HW1;go_ret;exact ⟨ret_bool (by rw [HB.out];rfl),d0⟩
  go_wp2_with fail
  rw [<- HW1.out];clear HW1 o1 t0;refine (implName_any nm _ hn).mono ?_;rintro e w' ⟨rfl,rfl⟩;generalize Nums.nameB nm.data.toList = c1 at *;cases c1
  · go_wp2_with fail
    go_ret;exact ⟨ret_bool (by rw [HB.out];rfl),d0⟩
  go_wp2_with fail
  refine (otherOk_any ot x0 _ ho).mono ?_;rintro e w' ⟨rfl,rfl⟩;generalize otOk ot x0 = c2 at *;cases c2
  · go_wp2_with fail
    go_ret;exact ⟨ret_bool (by rw [HB.out];rfl),d0⟩
  go_wp2_with fail
  refine (within_any at_ 0 x1 _).mono ?_;rintro e w' ⟨rfl,rfl⟩;generalize inB at_ 0 x1 = c3 at *;cases c3
  · go_wp2_with fail
    go_ret;exact ⟨ret_bool (by rw [HB.out];rfl),d0⟩
  go_wp2_with fail
  refine (within_any va x2 x3 _).mono ?_;rintro e w' ⟨rfl,rfl⟩;generalize inB va x2 x3 = c4 at *;cases c4
  · go_wp2_with fail
    go_ret;exact ⟨ret_bool (by rw [HB.out];rfl),d0⟩
  go_wp2_with fail
  refine (within_any ep 0 x4 _).mono ?_;rintro e w' ⟨rfl,rfl⟩;generalize inB ep 0 x4 = c5 at *
  go_wp2_with fail
  go_ret;exact ⟨ret_bool (by rw [HB.out];rfl),d0⟩
end Go.Proofs.YtcefcglonooelaaGreatDoor
