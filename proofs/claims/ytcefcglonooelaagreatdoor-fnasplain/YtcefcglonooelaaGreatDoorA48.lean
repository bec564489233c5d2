import Derived.Lib.LazyBuf
import Derived.Deep.DeepCutAuto
import Derived.Deep.RegionHeld3
import Derived.Lib.AppendZeros
import Derived.Lib.AppendZerosOnto
import Derived.Laws.Cover1
import Derived.Test.YtcefcglonooelaaGreatDoorA01
import Derived.Test.YtcefcglonooelaaGreatDoorA04
import Derived.Test.YtcefcglonooelaaGreatDoorA05
import Derived.Test.YtcefcglonooelaaGreatDoorA06
import Derived.Test.YtcefcglonooelaaGreatDoorA08
import Derived.Test.YtcefcglonooelaaGreatDoorA11
import Derived.Test.YtcefcglonooelaaGreatDoorA13
import Derived.Test.YtcefcglonooelaaGreatDoorA16
import Derived.Test.YtcefcglonooelaaGreatDoorA25
import Derived.Test.YtcefcglonooelaaGreatDoorA26
import Derived.Test.YtcefcglonooelaaGreatDoorA28
import Derived.Test.YtcefcglonooelaaGreatDoorA29
import Derived.Test.YtcefcglonooelaaGreatDoorA30
import Derived.Test.YtcefcglonooelaaGreatDoorA33
import Derived.Test.YtcefcglonooelaaGreatDoorA35
import Derived.Test.YtcefcglonooelaaGreatDoorA36
import Derived.Test.YtcefcglonooelaaGreatDoorA41
import Derived.Test.YtcefcglonooelaaGreatDoorA43
import Derived.Test.YtcefcglonooelaaGreatDoorA44
import Derived.Test.YtcefcglonooelaaGreatDoorA46
import Derived.Test.YtcefcglonooelaaGreatDoorA47
namespace Go.Proofs.YtcefcglonooelaaGreatDoor
open Go.RowKit
set_option linter.unusedVariables false
set_option maxRecDepth 100000
theorem readsR_take {α : Type} {k : Nat} {cs : α -> List Value} {B : Nat} {w : World} {g cap n : Nat} {xs : List α} (h : ReadsR k cs B w (.slice (some ⟨g,0,none⟩) n cap) xs) (i : Nat) (hi : i <= xs.length) : ReadsR k cs B w (.slice (some ⟨g,0,none⟩) i cap) (xs.take i) := by
  obtain ⟨o,c,hv,hm,hc,hr⟩ := h;simp only [Value.slice.injEq] at hv;obtain ⟨rfl,-,rfl⟩ := hv;have hl : (xs.take i).length = i := by rw [List.length_take];omega
  refine ⟨some ⟨g,0,none⟩,cap,by rw [hl],by rw [hl];omega,fun j x hj => ?_,by rw [hl];omega⟩
  have hj' : xs[j]? = some x := by
    have hlt := (List.getElem?_eq_some_iff.1 hj).1;rw [hl] at hlt
    rwa [List.getElem?_take_of_lt hlt] at hj
  exact hc j x hj'
theorem readsR_drop {α : Type} {k : Nat} {cs : α -> List Value} {B : Nat} {w : World} {g cap n : Nat} {xs : List α} (h : ReadsR k cs B w (.slice (some ⟨g,0,none⟩) n cap) xs) (i : Nat) (hi : i <= xs.length) : ReadsR k cs B w (.slice (if cap = i then some ⟨g,0,none⟩ else some ⟨g,i * k,none⟩) (xs.length - i) (cap - i)) (xs.drop i) := by
  obtain ⟨o,c,hv,hm,hc,hr⟩ := h;simp only [Value.slice.injEq] at hv;obtain ⟨rfl,hn,rfl⟩ := hv;refine ⟨_,_,by rw [List.length_drop],by rw [List.length_drop];omega,fun j x hj => ?_,by rw [List.length_drop];omega⟩;rw [List.getElem?_drop] at hj;obtain ⟨g',off',e,hg,hx⟩ := hc (i + j) x hj;simp only [Option.some.injEq,Addr.mk.injEq] at e;obtain ⟨rfl,rfl,-⟩ := e;have hl := (List.getElem?_eq_some_iff.1 hj).1;rw [if_neg (by omega)];exact ⟨g,i * k,rfl,hg,fun z u hz => by have := hx z u hz;rw [Nat.zero_add,Nat.add_mul] at this;exact this⟩
end Go.Proofs.YtcefcglonooelaaGreatDoor
namespace Go.Proofs.YtcefcglonooelaaGreatDoor
open Go.RowKit
set_option linter.unusedVariables false
theorem apart_erase {ms : List Pk} (h : ApartK ms) (i : Nat) : ApartK (ms.take i ++ ms.drop (i + 1)) := by
  unfold ApartK at h ⊢;exact h.sublist (by rw [<- List.eraseIdx_eq_take_drop_succ];exact List.eraseIdx_sublist _ _)
set_option maxRecDepth 100000 in
set_option maxHeartbeats 6400000 in
theorem changedPlains_6 (base g cp i : Nat) (ms : List Pk) (nm ot : ByteArray) (at_ va ep : Int) (w : World) (hbase : base <= w.heap.size) (hi : i < ms.length) (hl : ms.length <= 6) (own : OwnK base w (.slice (some ⟨g,0,none⟩) ms.length cp) ms) (ap : ApartK ms) (hfp : findP ((ms.map Pk.pv).map Pv.pb) nm = i) :
    Calls Tryz.prog 40 #[.slice (some ⟨g,0,none⟩) ms.length cp,.agg #[.int .i64 6,.string nm,.string ot,.int .i64 at_,.int .i64 va,.int .i64 ep]] w fun e w' => ∃ (v' : Value) (ms' : List Pk),e = .returned (.tuple #[v',.int .i64 0]) /\ ms'.map Pk.pv = (ms.map Pk.pv).take i ++ (ms.map Pk.pv).drop (i + 1) /\ OwnK base w' v' ms' /\ ApartK ms' /\ Below base w w' := by
  have HAP : Hid _ := ap;clear ap;have hms' : ∀ b ∈ ms.map Pk.bk,∃ o k cap,b.m = .slice o k cap := fun b hb => by obtain ⟨x,hx,rfl⟩ := List.mem_map.1 hb;exact ⟨none,0,0,rfl⟩
  have HFB : Hid (∀ (v : Value) (w : World),ReadsR 5 bookC w.heap.size w v (ms.map Pk.bk) -> Calls Tryz.prog 76 #[v,.string nm] w fun e w' => e = .returned (.int .i64 (i : Int)) /\ Below w.heap.size w w') := fun v w r => by
    have h := implFindBook_any v (ms.map Pk.bk) nm w hms' r;rw [findB_P,bk_pb,hfp] at h;exact h
  have HWV : Hid (∀ (w : World) (r : ReadsK w.heap.size w (.slice (some ⟨g,0,none⟩) ms.length cp) ms),_) := fun w r => withoutValues_any _ ms w hl r
  obtain ⟨W0,hW0,kO,d0,z0⟩ := box1 w #[.int .i64 6,.string nm,.string ot,.int .i64 at_,.int .i64 va,.int .i64 ep] 26;have HW0 : Hid (W0 = _) := hW0;have own0 := own.below d0;have HR0 : Hid (ReadsK W0.heap.size W0 (.slice (some ⟨g,0,none⟩) ms.length cp) ms) := own0.reads;have z0a : w.heap.size < W0.heap.size := by omega
  have hb0 : base <= W0.heap.size := by omega
  clear hW0 z0 own hms' hfp
  go_enter Tryz.func40,Tryz.ntmps40
  go_wp2_with fail
  rw [<- HW0.out];clear HW0
  go_cut [6] (fun v wx => v = .int .i64 (i : Int) /\ Below W0.heap.size W0 wx)
  case first =>
    have HKeep : ∀ X,Below W0.heap.size W0 X -> (Below W0.heap.size W0 X /\ X.cell? ⟨w.heap.size,1,none⟩ = some (.string nm)) := fun X hb => by
      have x2 := (hb.block _ (heap_lt kO)).trans kO;exact ⟨hb,at_cell x2 1⟩
    have A1 : Below W0.heap.size W0 W0.drew := bw_drew (Below.refl _ _)
    go_region_held3 (fun X => Below W0.heap.size W0 X /\ X.cell? ⟨w.heap.size,1,none⟩ = some (.string nm))
      ((refine HKeep _ ?_;repeat (first | exact Below.refl _ _ | exact A3 | exact A4 | refine bw_drew ?_)))
      ((first
        | (go_at_call 46;refine (HWV.out _ ((HR0.out.below A1).mono A1.size)).mono ?_;rintro e w5 ⟨u5,rfl,og,b5⟩;have A3 : Below W0.heap.size W0 w5 := bw_call A1 b5;skip)
        | (go_at_call 76;refine (HFB.out _ _ (ReadsR.of_own bookC_len og)).mono ?_;rintro e w6 ⟨rfl,b6⟩;have A4 : Below W0.heap.size W0 w6 := bw_call A3 b6;skip)))
    all_goals
      go_wp2_with fail
      go_meet
      exact ⟨rfl,A4⟩
  case rest =>
    obtain ⟨rfl,bw⟩ := hcut
    rename World => W1
    replace kO := (bw.block _ (heap_lt kO)).trans kO;have own1 := own0.below bw;have d1 := bw_call d0 bw;have hb1 : base <= W1.heap.size := Nat.le_trans hb0 bw.size;have z1a : w.heap.size < W1.heap.size := Nat.lt_of_lt_of_le z0a bw.size;clear HFB HWV HR0 own0 d0 bw hb0 z0a;have q0 := at_cell kO 0;have rr : ReadsR 5 pkC W1.heap.size W1 (.slice (some ⟨g,0,none⟩) ms.length cp) ms := ReadsR.of_own pkC_len own1.row;have HRT := readsR_take rr i (by omega);have HRD := readsR_drop rr (i + 1) (by omega)
    have hkb : ms.length <= cp := by
      rcases own1.row.2 with ⟨e,he⟩ | ⟨g',cap',cur,e,_,_,hnc,_⟩
      · cases e
      · cases e;exact hnc
    have hfm : ∀ b ∈ ms,∃ o k cp,b.m = .slice o k cp := fun b hbm => by obtain ⟨o,c,e⟩ := own_slice (own1.maps b hbm);exact ⟨_,_,_,e⟩
    have HMT : Hid (∀ b ∈ ms.take i,∃ o k cp,b.m = .slice o k cp) := fun b hb => hfm b (List.mem_of_mem_take hb)
    have HMD : Hid (∀ b ∈ ms.drop (i + 1),∃ o k cp,b.m = .slice o k cp) := fun b hb => hfm b (List.mem_of_mem_drop hb)
    have hll : (ms.take i).length + (ms.drop (i + 1)).length <= 12 := by rw [List.length_take,List.length_drop];omega
    obtain ⟨N,hN⟩ : ∃ N,ms.take i ++ ms.drop (i + 1) = N := ⟨_,rfl⟩
    have HNE : Hid (ms.take i ++ ms.drop (i + 1) = N) := hN
    have HN : Hid (∀ b ∈ N,b ∈ ms) := fun b hb => by
      rw [<- hN] at hb;rcases List.mem_append.1 hb with q | q
      · exact List.mem_of_mem_take q
      · exact List.mem_of_mem_drop q
    have HAPN : Hid (ApartK N) := by rw [Hid,<- hN];exact apart_erase HAP.out i
    have HPV : Hid (N.map Pk.pv = (ms.map Pk.pv).take i ++ (ms.map Pk.pv).drop (i + 1)) := by rw [Hid,<- hN,List.map_append,List.map_take,List.map_drop]
    have wi : IntKind.i64.wrap ((i : Int) + 1) = (i : Int) + 1 := by rw [IntKind.wrap_i64];omega
    have ti : ((i : Int) + 1).toNat = i + 1 := by omega
    have g0 : (0 : Int) <= (i : Int) + 1 := by omega
    have g1 : (i : Int) + 1 <= (ms.length : Int) := by omega
    have g2 : (i : Int) <= (cp : Int) := by omega
    have g3 : i <= cp := by omega
    have g4 : i + 1 <= ms.length := by omega
    have g8 : (0 : Int) <= (i : Int) := by omega
    have g9 : (i : Int) <= (ms.length : Int) := by omega
    have HD : Hid (Below w.heap.size w W1) := d1;clear hN hfm rr d1 kO
    go_upto_region 9 with fail
    clear q0;by_cases hkq : cp = i + 1
    · subst hkq
      rw [if_pos rfl,Nat.sub_self,Nat.sub_eq_zero_of_le hkb] at HRD;have g5 : (i : Int) <= ((i + 1 : Nat) : Int) := by omega
      have g6 : (i : Int) <= (i : Int) + 1 := by omega
      have g7 : ((i + 1 : Nat) : Int) <= (ms.length : Int) := by omega
      have dX : Below W1.heap.size W1 (W1.alloc (.cells #[.slice (some ⟨g,0,none⟩) i (i + 1),.slice (some ⟨g,0,none⟩) 0 0] 24)).drew := bw_drew (bw_alloc (Below.refl _ _));have kX : (W1.alloc (.cells #[.slice (some ⟨g,0,none⟩) i (i + 1),.slice (some ⟨g,0,none⟩) 0 0] 24)).drew.heap[W1.heap.size]? = some (.cells #[.slice (some ⟨g,0,none⟩) i (i + 1),.slice (some ⟨g,0,none⟩) 0 0] 24 (0,0)) := heap_alloc_new W1 _;have X0 : Hid _ := at_cell kX 0;have X1 : Hid _ := at_cell kX 1;have RT := (HRT.below dX).mono dX.size;have RD := (HRD.below dX).mono dX.size;clear kX
      go_region_held3 (fun X => Below W1.heap.size W1 X)
        ((repeat (first | exact Below.refl _ _ | exact A8 | refine bw_drew ?_ | refine bw_alloc ?_)))
        ((go_at_call 80;refine (concatK_any W1.heap.size _ _ (ms.take i) (ms.drop (i + 1)) _ hll X0.out X1.out HMT.out HMD.out RT RD).mono ?_;rintro e w8 ⟨ub,rfl,ow8,b8⟩;rw [HNE.out] at ow8;have A8 : Below W1.heap.size W1 w8 := bw_call dX b8;obtain ⟨o6,c6,hub⟩ := own_slice ow8;subst hub;skip))
      all_goals
        have own8 := own1.below A8;have dd := dX.size
        have HE : Hid (OwnK base w8 (.slice o6 N.length c6) N /\ Below base w w8) := ⟨⟨owns_mono ow8 (by omega),fun b hb => own8.maps b (HN.out b hb)⟩,(bw_call HD.out A8).mono hbase⟩
        clear own8 ow8 b8 own1 A8 dX RT RD HRT HRD X0 X1
        go_wp2_with fail
        exact bodyPost_ret (v := .tuple #[.slice o6 N.length c6,.int .i64 0]) (by simp [results,Tryz.results40,go_sem]) rfl ⟨_,N,rfl,HPV.out,HE.out.1,HAPN.out,HE.out.2⟩
    · rw [if_neg hkq] at HRD
      have g5 : (i : Int) + 1 <= (cp : Int) := by omega
      have g6 : i + 1 <= cp := by omega
      have dX : Below W1.heap.size W1 (W1.alloc (.cells #[.slice (some ⟨g,0,none⟩) i cp,.slice (some ⟨g,(i + 1) * 5,none⟩) (ms.length - (i + 1)) (cp - (i + 1))] 24)).drew := bw_drew (bw_alloc (Below.refl _ _));have kX : (W1.alloc (.cells #[.slice (some ⟨g,0,none⟩) i cp,.slice (some ⟨g,(i + 1) * 5,none⟩) (ms.length - (i + 1)) (cp - (i + 1))] 24)).drew.heap[W1.heap.size]? = some (.cells #[.slice (some ⟨g,0,none⟩) i cp,.slice (some ⟨g,(i + 1) * 5,none⟩) (ms.length - (i + 1)) (cp - (i + 1))] 24 (0,0)) := heap_alloc_new W1 _;have X0 : Hid _ := at_cell kX 0;have X1 : Hid _ := at_cell kX 1;have RT := (HRT.below dX).mono dX.size;have RD := (HRD.below dX).mono dX.size;clear kX
      go_region_held3 (fun X => Below W1.heap.size W1 X)
        ((repeat (first | exact Below.refl _ _ | exact A8 | refine bw_drew ?_ | refine bw_alloc ?_)))
        ((go_at_call 80;refine (concatK_any W1.heap.size _ _ (ms.take i) (ms.drop (i + 1)) _ hll X0.out X1.out HMT.out HMD.out RT RD).mono ?_;rintro e w8 ⟨ub,rfl,ow8,b8⟩;rw [HNE.out] at ow8;have A8 : Below W1.heap.size W1 w8 := bw_call dX b8;obtain ⟨o6,c6,hub⟩ := own_slice ow8;subst hub;skip))
      all_goals
        have own8 := own1.below A8;have dd := dX.size
        have HE : Hid (OwnK base w8 (.slice o6 N.length c6) N /\ Below base w w8) := ⟨⟨owns_mono ow8 (by omega),fun b hb => own8.maps b (HN.out b hb)⟩,(bw_call HD.out A8).mono hbase⟩
        clear own8 ow8 b8 own1 A8 dX RT RD HRT HRD X0 X1
        go_wp2_with fail
        exact bodyPost_ret (v := .tuple #[.slice o6 N.length c6,.int .i64 0]) (by simp [results,Tryz.results40,go_sem]) rfl ⟨_,N,rfl,HPV.out,HE.out.1,HAPN.out,HE.out.2⟩
end Go.Proofs.YtcefcglonooelaaGreatDoor
namespace Go.Proofs.YtcefcglonooelaaGreatDoor
open Go.RowKit
set_option linter.unusedVariables false
set_option maxRecDepth 100000
def ChK (base : Nat) (X : List Pv × (Int × Int)) (w : World) (e : Ending) (w' : World) : Prop :=
  ∃ (v' : Value) (ms' : List Pk),e = .returned (.tuple #[v',.int .i64 X.2.2]) /\ ms'.map Pk.pv = X.1 /\ OwnK base w' v' ms' /\ ApartK ms' /\ Below base w w'
theorem changedPlains_any (base g cp : Nat) (ms : List Pk) (k : Int) (nm ot : ByteArray) (at_ va ep told : Int) (w : World) (hbase : base <= w.heap.size) (hpo : plainsOk (ms.map Pk.pv) = true) (hok : opOk ⟨k,nm,ot,at_,va,ep⟩ = true) (href : refused ((ms.map Pk.pv).map Pv.pb) ⟨k,nm,ot,at_,va,ep⟩ = 0) (hfull : ¬ (k = 2 /\ told = 9)) (own : OwnK base w (.slice (some ⟨g,0,none⟩) ms.length cp) ms) (ap : ApartK ms) :
    Calls Tryz.prog 40 #[.slice (some ⟨g,0,none⟩) ms.length cp,.agg #[.int .i64 k,.string nm,.string ot,.int .i64 at_,.int .i64 va,.int .i64 ep]] w (ChK base (doPlain (ms.map Pk.pv) ⟨k,nm,ot,at_,va,ep⟩ told) w) := by
  have hbd := opOk_bd _ hok;simp only at hbd;have hpt := refused_parts href;simp only at hpt;have hfew : ms.length <= 6 := by have := (plains_ok hpo).1;rwa [List.length_map] at this
  have hnz : nm.size <= 1099511627776 := by omega
  have hoz : ot.size <= 1099511627776 := by omega
  have hsr := plains_sorted hpo;by_cases hk1 : k = 1
  · subst hk1
    obtain ⟨N,rfl⟩ := Int.eq_ofNat_of_zero_le hbd.2.2.2.2.1.1
    have hD : doPlain (ms.map Pk.pv) ⟨1,nm,ot,at_,(N : Int),ep⟩ told = (putV (ms.map Pk.pv) ⟨nm,N,List.replicate N 0,false,0⟩,(0,0)) := by
      rw [doPlain,if_neg (by rw [hok];decide),if_neg (by rw [href];decide),if_neg (by simp),if_pos rfl]
      rfl
    have h5 := (hpt.2.1 rfl).2;rw [List.length_map,List.length_map] at h5;refine (changedPlains_1 base g cp N ms nm ot at_ ep w hbase (by omega) (by omega) hnz hsr (new_plains (hpt.2.1 rfl).1) own ap).mono ?_;rintro e w' ⟨v',ms',rfl,hp,o1,o2,o3⟩;exact ⟨v',ms',by rw [hD],by rw [hD];exact hp,o1,o2,o3⟩
  · obtain ⟨i,hi,hfp,hpk,hpa,hpe⟩ := foundV (o := ⟨k,nm,ot,at_,va,ep⟩) hpo href hk1
    simp only at hfp hpa hpe;have hib : i < ms.length := by rw [List.length_map] at hi;exact hi
    have hpp := pv_parts hpk
    obtain ⟨⟨xn,xz,xm,xr,xf,xe⟩,hX⟩ : ∃ X : Pk,ms[i] = X := ⟨_,rfl⟩
    have hPI : (ms.map Pk.pv)[i] = ⟨xn,xz,xr,xf,xe⟩ := by rw [List.getElem_map,hX];rfl
    rw [hPI] at hpk hpa hpe hpp;simp only at hpa hpe hpp;have hxl : xr.length <= 16 := by omega
    have hxn : xn.size <= 1099511627776 := by
      have h1 : Nums.nameB xn.data.toList = true := by
        simp only [Pv.ok,plainOk,Bool.and_eq_true] at hpk;exact hpk.1.1.1.2
      have := (nameB_size _ h1).2
      omega
    by_cases hk6 : k = 6
    · subst hk6
      have hD : doPlain (ms.map Pk.pv) ⟨6,nm,ot,at_,va,ep⟩ told = ((ms.map Pk.pv).take i ++ (ms.map Pk.pv).drop (i + 1),(0,0)) := by
        rw [doPlain,if_neg (by rw [hok];decide),if_neg (by rw [href];decide),if_neg (by simp),if_neg (by simp),if_pos rfl,hfp,Int.toNat_natCast]
      refine (changedPlains_6 base g cp i ms nm ot at_ va ep w hbase hib hfew own ap hfp).mono ?_;rintro e w' ⟨v',ms',rfl,hp,o1,o2,o3⟩;exact ⟨v',ms',by rw [hD],by rw [hD];exact hp,o1,o2,o3⟩
    · by_cases hk45 : k = 4 \/ k = 5
      · have hko : kOther k = true := by rcases hk45 with rfl | rfl <;> decide
        have hD : doPlain (ms.map Pk.pv) ⟨k,nm,ot,at_,va,ep⟩ told = (putV (ms.map Pk.pv) ⟨ot,xz,xr,k == 4,0⟩,(0,0)) := by
          have hpl : plainAt (ms.map Pk.pv) i = ⟨xn,xz,xr,xf,xe⟩ := by rw [<- hPI];simp [plainAt,List.getD_eq_getElem?_getD,hib]
          rw [doPlain,if_neg (by rw [hok];decide),if_neg (by rw [href];decide),if_neg hfull,if_neg hk1,if_neg hk6,if_pos hko,hfp,Int.toNat_natCast,hpl]
          rfl
        have h5 := (hpt.2.2.1 hko).2 hk1;rw [List.length_map,List.length_map] at h5;refine (changedPlains_45 base g cp i ms k nm ot at_ va ep w hbase hib hk45 (by omega) hoz hsr (new_plains (hpt.2.2.1 hko).1) own ap hfp xn xz xm xr xf xe hX hxn (by omega)).mono ?_;rintro e w' ⟨v',ms',rfl,hp,o1,o2,o3⟩;exact ⟨v',ms',by rw [hD],by rw [hD];exact hp,o1,o2,o3⟩
      · have hko : kOther k = false := by
          have h : k = 2 \/ k = 3 \/ k = 7 \/ k = 8 \/ k = 9 := by omega
          rcases h with rfl | rfl | rfl | rfl | rfl <;> decide
        have hD0 : doPlain (ms.map Pk.pv) ⟨k,nm,ot,at_,va,ep⟩ told = doOne (ms.map Pk.pv) ⟨k,nm,ot,at_,va,ep⟩ i (ms.map Pk.pv)[i] := doPlain_one hi hok href hfull ⟨hk1,hk6,hko⟩ hfp;rw [hPI] at hD0
        have fin : ∀ (y : Pv) (val : Int),doOne (ms.map Pk.pv) ⟨k,nm,ot,at_,va,ep⟩ i ⟨xn,xz,xr,xf,xe⟩ = ((ms.map Pk.pv).set i y,(0,val)) -> (∀ X : World,base <= X.heap.size -> X.ownsRow base 2 1 xm xr.length (xr.flatMap intC) -> Calls Tryz.prog 81 #[.agg #[.string xn,.int .i64 xz,xm,.bool xf,.int .i64 xe],.agg #[.int .i64 k,.string nm,.string ot,.int .i64 at_,.int .i64 va,.int .i64 ep]] X fun e w' => ∃ v' : Value,e = .returned (.tuple #[.agg #[.string y.nm,.int .i64 y.sz,v',.bool y.fx,.int .i64 y.ep],.int .i64 val]) /\ w'.ownsRow base 2 1 v' y.vs.length (y.vs.flatMap intC) /\ (v' = xm \/ ∀ q,v'.ownBlock = some q -> X.heap.size <= q) /\ Below X.heap.size X w') -> Calls Tryz.prog 40 #[.slice (some ⟨g,0,none⟩) ms.length cp,.agg #[.int .i64 k,.string nm,.string ot,.int .i64 at_,.int .i64 va,.int .i64 ep]] w (ChK base (doPlain (ms.map Pk.pv) ⟨k,nm,ot,at_,va,ep⟩ told) w) := fun y val hy HC => by
          refine (changedPlains_one base g cp i ms k nm ot at_ va ep w hbase hib ⟨hk1,fun h => hk45 (.inl h),fun h => hk45 (.inr h),hk6⟩ hfew own ap hfp xn xz xm xr xf xe hX y val HC).mono ?_;rintro e w' ⟨v',ms',rfl,hp,o1,o2,o3⟩;exact ⟨v',ms',by rw [hD0,hy],by rw [hD0,hy];exact hp,o1,o2,o3⟩
        have h : k = 2 \/ k = 3 \/ k = 7 \/ k = 8 \/ k = 9 := by omega
        rcases h with rfl | rfl | rfl | rfl | rfl
        · have hlt := hpa (by decide)
          obtain ⟨A,rfl⟩ := Int.eq_ofNat_of_zero_le hbd.2.2.2.1.1;have hA : A < xr.length := by omega
          refine fin ⟨xn,xz,xr.set A va,xf,xe⟩ 0 rfl (fun X hbX ow => ?_);refine (changedPlain_2 xn xz xm xr xf xe nm ot A va ep X hA (by omega) (ReadsR.of_own intC_len ow)).mono ?_;rintro e w' ⟨v',rfl,o1,b⟩;exact ⟨v',rfl,owns_mono o1 hbX,.inr (fun q hq => (o1.lt q hq).1),b⟩
        · have hlt := hpa (by decide)
          obtain ⟨A,rfl⟩ := Int.eq_ofNat_of_zero_le hbd.2.2.2.1.1;have hA : A < xr.length := by omega
          refine fin ⟨xn,xz,xr.set A 0,xf,xe⟩ 0 rfl (fun X hbX ow => ?_);refine (changedPlain_3 xn xz xm xr xf xe nm ot A va ep X hA (by omega) (ReadsR.of_own intC_len ow)).mono ?_;rintro e w' ⟨v',rfl,o1,b⟩;exact ⟨v',rfl,owns_mono o1 hbX,.inr (fun q hq => (o1.lt q hq).1),b⟩
        · have hv := (op_parts hok).2.2.2.2.1 rfl
          simp only at hv;obtain ⟨N,rfl⟩ := Int.eq_ofNat_of_zero_le hbd.2.2.2.2.1.1;have hN : N <= 16 := by omega
          have hbt := blk_take xr N hxl hN;have hlen : (List.take N (blkL xr)).length = N := by rw [List.length_take,blkL_len];omega
          refine fin ⟨xn,N,(xr ++ List.replicate 16 0).take N,xf,xe⟩ 0 rfl (fun X hbX ow => ?_);refine (changedPlain_7 xn xz xm xr xf xe nm ot at_ N ep X hN (by omega) (ReadsR.of_own intC_len ow)).mono ?_;rintro e w' ⟨v',rfl,o1,b⟩;refine ⟨v',rfl,?_,.inr (fun q hq => (o1.lt q hq).1),b⟩
          show w'.ownsRow base 2 1 v' (List.take N (xr ++ List.replicate 16 0)).length ((List.take N (xr ++ List.replicate 16 0)).flatMap intC)
          rw [<- hbt,hlen];exact owns_mono o1 hbX
        · refine fin ⟨xn,xz,xr,xf,xe + 1⟩ (xe + 1) rfl (fun X hbX ow => ?_)
          refine (changedPlain_8 xn xz xm xr xf xe (xe + 1) nm ot at_ va ep X rfl (by omega) (by omega) (ReadsR.of_own intC_len ow)).mono ?_;rintro e w' ⟨rfl,b⟩;exact ⟨xm,rfl,owns_below ow b,.inl rfl,b⟩
        · have hlt := hpa (by decide)
          obtain ⟨A,rfl⟩ := Int.eq_ofNat_of_zero_le hbd.2.2.2.1.1;have hA : A < xr.length := by omega
          have hset : (ms.map Pk.pv).set i ⟨xn,xz,xr,xf,xe⟩ = ms.map Pk.pv := by rw [<- hPI,List.set_getElem_self]
          refine fin ⟨xn,xz,xr,xf,xe⟩ (xr.getD A 0) (by rw [hset];rfl) (fun X hbX ow => ?_);refine (changedPlain_9 xn xz xm xr xf xe nm ot A va ep X hA (ReadsR.of_own intC_len ow)).mono ?_;rintro e w' ⟨rfl,b⟩;exact ⟨xm,rfl,owns_below ow b,.inl rfl,b⟩
end Go.Proofs.YtcefcglonooelaaGreatDoor
namespace Go.Proofs.YtcefcglonooelaaGreatDoor
open Go.RowKit
set_option linter.unusedVariables false
def DidKP (l : List Pv) (o : Oq) (told : Int) (w : World) (e : Ending) (w' : World) : Prop :=
  ∃ (v' : Value) (ms : List Pk),e = .returned (.tuple #[v',.agg #[.int .i64 (didPlain l o told).2.1,.int .i64 (didPlain l o told).2.2]]) /\ ms.map Pk.pv = (didPlain l o told).1 /\ OwnK w.heap.size w' v' ms /\ ApartK ms /\ Below w.heap.size w w'
set_option maxRecDepth 100000 in
set_option maxHeartbeats 6400000 in
theorem implDidPlain_any (v : Value) (bks : List Pk) (k : Int) (nm ot : ByteArray) (at_ va ep told : Int) (w : World) (ad : Nat -> Addr) (hv : Vars w ad) (hnb : ∀ b ∈ bks,b.nm.size <= maxLen) (hn : nm.size <= maxLen) (hot : ot.size <= maxLen) (fk : I64 k) (fa : I64 at_) (fv : I64 va) (fe : I64 ep) (r : ReadsK w.heap.size w v bks) :
    Calls Tryz.prog 9 #[v,.agg #[.int .i64 k,.string nm,.string ot,.int .i64 at_,.int .i64 va,.int .i64 ep],.int .i64 told] w (DidKP (bks.map Pk.pv) ⟨k,nm,ot,at_,va,ep⟩ told w) := by
  obtain ⟨ov,cv,hvf⟩ := r.row.form;subst hvf;obtain ⟨W0,hW0,k0,k1,d0,z0⟩ := box2 w #[.int .i64 k,.string nm,.string ot,.int .i64 at_,.int .i64 va,.int .i64 ep] #[.int .i64 0,.int .i64 0] 26 30;have HW0 : Hid (W0 = _) := hW0;have r0 := (r.below d0).mono d0.size;have hv0 := hv.below d0;clear hW0 z0 r hv
  go_enter Tryz.func9,Tryz.ntmps9
  go_upto_region 1 with fail
  rw [<- HW0.out];clear HW0
  go_wp2_with fail
  refine (implPlainsOk_any _ bks _ hnb r0).mono ?_;rintro e w1 ⟨rfl,b1⟩;replace k0 := (b1.block _ (heap_lt k0)).trans k0;replace k1 := (b1.block _ (heap_lt k1)).trans k1;replace d0 := bw_call d0 b1;replace r0 := (r0.below b1).mono b1.size;replace hv0 := hv0.below b1;clear b1;cases hpo : plainsOk (bks.map Pk.pv)
  · have HD : Hid (didPlain (bks.map Pk.pv) ⟨k,nm,ot,at_,va,ep⟩ told = ([],(1,0))) := by rw [Hid,didPlain,if_neg (by rw [hpo];decide)]
    have own1 : OwnK w.heap.size (w1.alloc (.cells #[] 51)) (.slice (some ⟨w1.heap.size,0,none⟩) 0 0) [] := ⟨owns_mono (own_noplains w1) d0.size,fun b hb => by cases hb⟩
    have bA : Below w1.heap.size w1 (w1.alloc (.cells #[] 51)) := bw_alloc (Below.refl _ _);have kA := (bA.block _ (heap_lt k1)).trans k1;have HS : Hid _ := k_end (c := 1) (v := 0) kA own1 (bw_call d0 bA) (Nat.le_succ _);have q0 := at_cell kA 0;have q1 := at_cell kA 1;have f0 := at_open kA 0;have f1 := at_open kA 1;have q0' := at_cell k1 0;have q1' := at_cell k1 1;have f0' := at_open k1 0;have f1' := at_open k1 1;clear k0 k1 d0 r0 own1 bA kA hpo hv0
    go_wp2_with fail
    exact bodyPost_ret (v := .tuple #[.slice (some ⟨w1.heap.size,0,none⟩) 0 0,.agg #[.int .i64 1,.int .i64 0]]) (by simp [results,Tryz.results9,go_sem,at_cell HS.out.1]) rfl ⟨_,[],by rw [HD.out],by rw [HD.out];rfl,HS.out.2.1,List.Pairwise.nil,HS.out.2.2⟩
  · have HD0 : Hid (didPlain (bks.map Pk.pv) ⟨k,nm,ot,at_,va,ep⟩ told = doPlain (bks.map Pk.pv) ⟨k,nm,ot,at_,va,ep⟩ told) := by rw [Hid,didPlain,if_pos hpo]
    have HPO : Hid (plainsOk (bks.map Pk.pv) = true) := hpo;have hfew : bks.length <= 6 := by have := (plains_ok hpo).1;rwa [List.length_map] at this
    have HPT : Hid (∀ b ∈ bks,b.rs.length <= 1048576 /\ b.ep <= 1000 /\ b.nm.size <= 1099511627776) := fun b hb => by
      have h0 := (plains_ok hpo).2 b.pv (List.mem_map_of_mem hb);have h := pv_parts h0;have h1 : (b.rs.length : Int) = b.sz := h.2.2;have h2 : 1 <= b.sz /\ b.sz <= 16 := h.1;have h3 : 0 <= b.ep /\ b.ep <= 1000 := h.2.1
      have h4 : Nums.nameB b.nm.data.toList = true := by
        simp only [Pv.ok,plainOk,Bool.and_eq_true] at h0;exact h0.1.1.1.2
      have h5 := (nameB_size _ h4).2;exact ⟨by omega,by omega,by omega⟩
    have c0 := at_cell k0 0;have c1 := at_cell k0 1;have c2 := at_cell k0 2;have c3 := at_cell k0 3;have c4 := at_cell k0 4;have c5 := at_cell k0 5;clear hpo
    go_wp2_with fail
    clear c0 c1 c2 c3 c4 c5;refine (refusedPlain_any _ bks k nm ot at_ va ep told _ ad hv0 hn hot fk fa fv fe hfew (fun b hb => (HPT.out b hb).2.1) r0).mono ?_;rintro e w2 ⟨rfl,b1⟩;replace k0 := (b1.block _ (heap_lt k0)).trans k0;replace k1 := (b1.block _ (heap_lt k1)).trans k1;replace d0 := bw_call d0 b1;replace r0 := (r0.below b1).mono b1.size;replace hv0 := hv0.below b1;clear b1
    obtain ⟨C,hC⟩ : ∃ C,plCode (bks.map Pk.pv) ⟨k,nm,ot,at_,va,ep⟩ told = C := ⟨_,rfl⟩
    have HC : Hid (plCode (bks.map Pk.pv) ⟨k,nm,ot,at_,va,ep⟩ told = C) := hC;have hrg := plCode_range (bks.map Pk.pv) ⟨k,nm,ot,at_,va,ep⟩ told;rw [hC] at hrg ⊢;clear hC;by_cases h0 : C = 0
    · subst h0
      obtain ⟨hok,href,hful⟩ := plCode_zero HC.out;rw [show refErr ad 0 = .nilIface from rfl];have HOK : Hid _ := And.intro hok (And.intro href hful);clear hok href hful hrg;have HOWN : Hid (∀ (X : World),Below w2.heap.size w2 X -> Calls Tryz.prog 38 #[.slice ov bks.length cv] X fun e w' => ∃ (g cp : Nat) (ms : List Pk),e = .returned (.slice (some ⟨g,0,none⟩) ms.length cp) /\ ms.map Pk.pv = bks.map Pk.pv /\ OwnK X.heap.size w' (.slice (some ⟨g,0,none⟩) ms.length cp) ms /\ ApartK ms /\ Below X.heap.size X w') := fun X hb => ownPlains_any _ bks X hfew (fun b hb => (HPT.out b hb).2.2) (fun b hb => (HPT.out b hb).1) ((r0.below hb).mono hb.size)
      obtain ⟨D,hDD⟩ : ∃ D,doPlain (bks.map Pk.pv) ⟨k,nm,ot,at_,va,ep⟩ told = D := ⟨_,rfl⟩
      have HCH : Hid (∀ (X Y : World) (g cp : Nat) (ms : List Pk),Below w2.heap.size w2 X -> Below X.heap.size X Y -> ms.map Pk.pv = bks.map Pk.pv -> OwnK X.heap.size Y (.slice (some ⟨g,0,none⟩) ms.length cp) ms -> ApartK ms -> Calls Tryz.prog 40 #[.slice (some ⟨g,0,none⟩) ms.length cp,.agg #[.int .i64 k,.string nm,.string ot,.int .i64 at_,.int .i64 va,.int .i64 ep]] Y (ChK X.heap.size D Y)) := fun X Y g cp ms h1 h2 hpv own ap => by
        have h := changedPlains_any X.heap.size g cp ms k nm ot at_ va ep told Y h2.size (by rw [hpv];exact HPO.out) HOK.out.1 (by rw [hpv];exact HOK.out.2.1) HOK.out.2.2 own ap;rw [hpv,hDD] at h;exact h
      have HD : Hid (didPlain (bks.map Pk.pv) ⟨k,nm,ot,at_,va,ep⟩ told = D) := HD0.out.trans hDD
      have HDC : Hid (D.2.1 = 0) := by
        rw [Hid,<- hDD];exact doPlain_ok HOK.out.1 HOK.out.2.1 HOK.out.2.2
      clear hDD
      go_upto_region 6 with fail
      go_cut [9,10] (fun va vb wx => ∃ (v' : Value) (ms' : List Pk),va = v' /\ vb = .int .i64 D.2.2 /\ ms'.map Pk.pv = D.1 /\ OwnK w2.heap.size wx v' ms' /\ ApartK ms' /\ Below w2.heap.size w2 wx)
      case first =>
        have HKeep : ∀ X,Below w2.heap.size w2 X -> (Below w2.heap.size w2 X /\ X.cell? ⟨w.heap.size,0,none⟩ = some (.int .i64 k) /\ X.cell? ⟨w.heap.size,1,none⟩ = some (.string nm) /\ X.cell? ⟨w.heap.size,2,none⟩ = some (.string ot) /\ X.cell? ⟨w.heap.size,3,none⟩ = some (.int .i64 at_) /\ X.cell? ⟨w.heap.size,4,none⟩ = some (.int .i64 va) /\ X.cell? ⟨w.heap.size,5,none⟩ = some (.int .i64 ep)) := fun X hb => by
          have x2 := (hb.block _ (heap_lt k0)).trans k0;exact ⟨hb,at_cell x2 0,at_cell x2 1,at_cell x2 2,at_cell x2 3,at_cell x2 4,at_cell x2 5⟩
        have A1 : Below w2.heap.size w2 w2.drew := bw_drew (Below.refl _ _)
        go_region_held3 (fun X => Below w2.heap.size w2 X /\ X.cell? ⟨w.heap.size,0,none⟩ = some (.int .i64 k) /\ X.cell? ⟨w.heap.size,1,none⟩ = some (.string nm) /\ X.cell? ⟨w.heap.size,2,none⟩ = some (.string ot) /\ X.cell? ⟨w.heap.size,3,none⟩ = some (.int .i64 at_) /\ X.cell? ⟨w.heap.size,4,none⟩ = some (.int .i64 va) /\ X.cell? ⟨w.heap.size,5,none⟩ = some (.int .i64 ep))
          ((refine HKeep _ ?_;repeat (first | exact Below.refl _ _ | exact A3 | exact A4 | refine bw_drew ?_)))
          ((first
            | (go_at_call 38;refine (HOWN.out _ A1).mono ?_;rintro e w5 ⟨g5,c5,ms5,rfl,hpv5,own5,ap5,b5⟩;have HPV5 : Hid _ := hpv5;clear hpv5;have A3 : Below w2.heap.size w2 w5 := bw_call A1 b5;skip)
            | (go_at_call 40;refine (HCH.out _ _ _ _ _ A1 b5 HPV5.out own5 ap5).mono ?_;rintro e w6 ⟨u6,ms6,rfl,hpv6,own6,ap6,b6⟩;have HPV6 : Hid _ := hpv6;clear hpv6;have A4 : Below w2.heap.size w2 w6 := A1.trans ((b5.trans b6).mono A1.size);obtain ⟨o6,c6,hu6⟩ := own_slice own6.row;subst hu6;skip)))
        all_goals
          have own7 := own6.mono A1.size;clear own6 own5
          go_wp2_with fail
          go_meet
          exact ⟨_,ms6,rfl,rfl,HPV6.out,own7,ap6,A4⟩
      case rest =>
        obtain ⟨v6,ms6,rfl,rfl,hpv6,own6,ap6,bw⟩ := hcut
        rename World => w6
        have k2 := (bw.block _ (heap_lt k1)).trans k1;obtain ⟨o6,c6,hu6⟩ := own_slice own6.row;subst hu6;obtain ⟨l',c',v'⟩ := D;have HS : Hid _ := k_end (c := 0) (v := v') k2 (own6.mono d0.size) (bw_call d0 bw) (Nat.le_succ _);have HPV : Hid _ := And.intro hpv6 ap6;have q0 := at_cell k2 0;have q1 := at_cell k2 1;have f0 := at_open k2 0;have f1 := at_open k2 1;clear k0 k1 k2 d0 r0 own6 ap6 bw hpv6 hv0 HOWN HCH;have HDC2 : Hid (c' = 0) := HDC.out;clear HDC
        go_wp2_with fail
        exact bodyPost_ret (v := .tuple #[.slice o6 ms6.length c6,.agg #[.int .i64 0,.int .i64 v']]) (by simp [results,Tryz.results9,go_sem,at_cell HS.out.1]) rfl ⟨_,ms6,by rw [HD.out,HDC2.out],by rw [HD.out];exact HPV.out.1,HS.out.2.1,HPV.out.2,HS.out.2.2⟩
    · have HD : Hid (didPlain (bks.map Pk.pv) ⟨k,nm,ot,at_,va,ep⟩ told = (bks.map Pk.pv,(C,0))) := by rw [Hid,HD0.out,doPlain_code (by rw [HC.out];exact h0),HC.out]
      have HE2 : Hid (refErr ad C = .iface 106 (.agg #[.int .i64 C,.iface 228 (.pointer (some (ad (varOf C))))])) := by rw [Hid,refErr,if_neg h0]
      rw [HE2.out]
      go_wp2_with fail
      refine (ownPlains_any _ bks _ hfew (fun b hb => (HPT.out b hb).2.2) (fun b hb => (HPT.out b hb).1) r0).mono ?_;rintro e w3 ⟨g3,c3,ms3,rfl,hpv3,own3,ap3,b3⟩;replace k1 := (b3.block _ (heap_lt k1)).trans k1;have own4 := own3.mono d0.size;replace d0 := bw_call d0 b3;replace hv0 := hv0.below b3;have HPV : Hid _ := And.intro hpv3 ap3;clear b3 k0 r0 own3 hpv3 ap3 HE2
      go_wp2_with fail
      refine (codeOf_any C (varOf C) _ ad hv0).mono ?_;rintro e w4 ⟨rfl,b4⟩;have k2 := (b4.block _ (heap_lt k1)).trans k1;have HS : Hid _ := k_end (c := C) (v := 0) k2 (own4.below b4) (bw_call d0 b4) (Nat.le_succ _);have q0 := at_cell k2 0;have q1 := at_cell k2 1;have f0 := at_open k2 0;have f1 := at_open k2 1;clear k1 k2 d0 own4 b4 hv0 h0 hrg
      go_wp2_with fail
      exact bodyPost_ret (v := .tuple #[.slice (some ⟨g3,0,none⟩) ms3.length c3,.agg #[.int .i64 C,.int .i64 0]]) (by simp [results,Tryz.results9,go_sem,at_cell HS.out.1]) rfl ⟨_,ms3,by rw [HD.out],by rw [HD.out];exact HPV.out.1,HS.out.2.1,HPV.out.2,HS.out.2.2⟩
end Go.Proofs.YtcefcglonooelaaGreatDoor
namespace Go.Proofs.YtcefcglonooelaaGreatDoor
set_option linter.unusedVariables false
set_option maxRecDepth 100000
theorem bare_of_pv {bs ms : List Pk} (h : ms.map Pk.pv = bs.map Pk.pv) : ms.map bareK = bs.map bareK := by
  have := congrArg (List.map (fun x : Pv => (x.nm,x.sz,x.vs,x.fx,x.ep))) h;simp only [List.map_map] at this;exact this
end Go.Proofs.YtcefcglonooelaaGreatDoor
