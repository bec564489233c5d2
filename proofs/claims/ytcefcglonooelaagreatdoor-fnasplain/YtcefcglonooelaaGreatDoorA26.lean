import Derived.Lib.LazyBuf
import Derived.Deep.DeepCutAuto
import Derived.Test.YtcefcglonooelaaGreatDoorA02
import Derived.Test.YtcefcglonooelaaGreatDoorA04
import Derived.Test.YtcefcglonooelaaGreatDoorA05
import Derived.Test.YtcefcglonooelaaGreatDoorA06
import Derived.Test.YtcefcglonooelaaGreatDoorA08
import Derived.Test.YtcefcglonooelaaGreatDoorA11
import Derived.Test.YtcefcglonooelaaGreatDoorA13
import Derived.Test.YtcefcglonooelaaGreatDoorA16
import Derived.Test.YtcefcglonooelaaGreatDoorA25
namespace Go.Proofs.YtcefcglonooelaaGreatDoor
open Go.RowKit
set_option linter.unusedVariables false
set_option maxRecDepth 100000
theorem at_ahead (f c p : Int) (w : World) : (method 360 129 (.agg #[.int .i64 f,.int .i64 c,.int .i64 p]) "loop.example/g00372/impl.isAheadOf").run Tryz.prog w = .ok (202,.agg #[.int .i64 f,.int .i64 c,.int .i64 p]) w := by kernel_rfl
theorem at_on (f c p : Int) (w : World) : (method 360 129 (.agg #[.int .i64 f,.int .i64 c,.int .i64 p]) "loop.example/g00372/impl.goesOnIn").run Tryz.prog w = .ok (201,.agg #[.int .i64 f,.int .i64 c,.int .i64 p]) w := by kernel_rfl
set_option maxHeartbeats 3200000 in
theorem listRight_any (v : Value) (rs : List (Int × Int × Int)) (w : World) (hfit : FitRuns rs) (r : ReadsR 3 runC w.heap.size w v rs) :
    Calls Tryz.prog 159 #[v] w fun e w' => e = .returned (.bool (okFrom 0 none rs)) /\ Below w.heap.size w w' := by
  obtain ⟨o,cap,rfl,hm,hc,-⟩ := r;have HC : Hid _ := three_cells hc;have HF : Hid _ := hfit;unfold maxLen at hm;clear hc hfit
  go_enter Tryz.func159,Tryz.ntmps159
  go_wp2_with fail
  go_loopw [7] (fun i wr => ∃ (k : Nat) (e : Int),k <= rs.length /\ i = .int .i64 k /\ (k = 0 -> e = 0) /\ okFrom 0 none rs = okFrom e (prevOf rs k) (rs.drop k) /\ (∀ q,prevOf rs k = some q -> runRight q = true /\ e = q.1 + q.2.1) /\ Below w.heap.size w wr) (fun i _ => rs.length - (intOf i).toNat)
  case atStart => exact ⟨0,0,Nat.zero_le _,rfl,fun _ => rfl,rfl,fun q hq => by simp [prevOf] at hq,Below.refl _ _⟩
  case round =>
    obtain ⟨k,e,hk,rfl,hk0,hok,hpv,hb⟩ := hrel;by_cases hlt : k < rs.length
    · obtain ⟨g,off,rfl,hg,a0,a1,a2⟩ := HC.out k hlt
      have hst := okFrom_step rs e k hlt;rw [<- hok] at hst;have hfk := HF.out rs[k] (List.getElem_mem hlt);replace a0 := (hb.cell (p := ⟨g,off + k * 3,none⟩) hg).trans a0;replace a1 := (hb.cell (p := ⟨g,off + k * 3 + 1,none⟩) hg).trans a1;replace a2 := (hb.cell (p := ⟨g,off + k * 3 + 2,none⟩) hg).trans a2
      obtain ⟨x,hx⟩ : ∃ x,rs[k] = x := ⟨_,rfl⟩
      rw [hx] at a0 a1 a2 hfk;obtain ⟨f,c,p⟩ := x;simp only at a0 a1 a2 hfk;have HNO : Hid (runOk e (prevOf rs k) (f,c,p) = false -> okFrom 0 none rs = false) := fun h => by rw [hst,hx,h];rfl
      have HYES : Hid (runOk e (prevOf rs k) (f,c,p) = true -> okFrom 0 none rs = okFrom (f + c) (prevOf rs (k + 1)) (rs.drop (k + 1))) := fun h => by rw [hst,hx,h,Bool.true_and]
      have HPV1 : Hid (prevOf rs (k + 1) = some (f,c,p)) := by rw [Hid,prevOf,if_neg (by omega),Nat.add_sub_cancel,List.getElem?_eq_getElem hlt,hx]
      have hprev : ∀ k',k = k' + 1 -> ∃ q,prevOf rs k = some q /\ w.cell? ⟨g,off + k' * 3,none⟩ = some (.int .i64 q.1) /\ w.cell? ⟨g,off + k' * 3 + 1,none⟩ = some (.int .i64 q.2.1) /\ w.cell? ⟨g,off + k' * 3 + 2,none⟩ = some (.int .i64 q.2.2) := fun k' hk' => by
        obtain ⟨g',off',e',-,b0,b1,b2⟩ := HC.out k' (by omega);cases e';refine ⟨rs[k'],?_,b0,b1,b2⟩;rw [prevOf,if_neg (by omega),show k - 1 = k' by omega,List.getElem?_eq_getElem (by omega)]
      have HPREV : Hid _ := hprev;have HPVB : Hid _ := hpv;have HK0 : Hid _ := hk0;have hbA : Below w.heap.size w (wr.alloc (.cells #[.int .i64 f,.int .i64 c,.int .i64 p] 129)) := bw_alloc hb;have kB := heap_alloc_new wr (.cells #[.int .i64 f,.int .i64 c,.int .i64 p] 129);have sB : wr.heap.size < (wr.alloc (.cells #[.int .i64 f,.int .i64 c,.int .i64 p] 129)).heap.size := by simp
      clear hst hok hprev hpv HC hx hk0
      go_wp2_with fail
      refine (implRun_right f c p _ hfk.1.2 hfk.2.2.2).mono ?_;generalize wr.alloc (.cells #[.int .i64 f,.int .i64 c,.int .i64 p] 129) = W5 at *;generalize wr.heap.size = nB at *;rintro e' w6 ⟨rfl,b6⟩;replace kB := (b6.block nB sB).trans kB;replace sB := Nat.lt_of_lt_of_le sB b6.size;replace hbA := bw_call hbA b6;clear b6;cases hr : runRight (f,c,p)
      · have HH := hr
        have HV : Hid _ := HNO.out (runOk_false e _ f c p (fun q => by
          rw [<- Bool.not_eq_true,runRight_iff] at HH;by_cases k0 : k = 0
          · have := HK0.out k0;omega
          · obtain ⟨k',rfl⟩ : ∃ k',k = k' + 1 := ⟨k - 1,by omega⟩
            obtain ⟨q',hq',-⟩ := HPREV.out k' rfl;obtain ⟨h1,h2⟩ := HPVB.out q' hq';obtain ⟨qf,qc,qp⟩ := q';rw [runRight_iff] at h1;simp only at h2
            omega))
        clear HH hr
        go_wp2_with fail
        go_ret;exact ⟨ret_bool HV.out.symm,hbA⟩
      rw [runRight_iff] at hr
      have HRR : Hid (∀ q,prevOf rs (k + 1) = some q -> runRight q = true /\ f + c = q.1 + q.2.1) := fun q hq => by
        rw [HPV1.out] at hq;cases hq;exact ⟨(runRight_iff f c p).2 hr,rfl⟩
      rcases Nat.eq_zero_or_pos k with hk0 | hkp
      · subst hk0
        have HV : Hid _ := HYES.out ((runOk_iff e _ f c p).2 ⟨by have := HK0.out rfl;omega,by omega,by omega,by omega,by omega,by omega,fun q hq => by simp [prevOf] at hq⟩);clear HYES HNO HPVB HPREV HK0
        go_wp2_with fail
        go_quiet (fail)
        go_wp2_with fail
        go_roundw
        case rel => exact ⟨0 + 1,f + c,by omega,by go_num,fun h => by omega,HV.out,HRR.out,⟨hbA.os,hbA.tape,hbA.output,hbA.size,hbA.block⟩⟩
        case measure => simp [intOf];omega
      · obtain ⟨k',rfl⟩ : ∃ k',k = k' + 1 := ⟨k - 1,by omega⟩
        obtain ⟨⟨qf,qc,qp⟩,hpq,b0,b1,b2⟩ := HPREV.out k' rfl;obtain ⟨hq1,hq2⟩ := HPVB.out _ hpq;rw [runRight_iff] at hq1;simp only at hq2 b0 b1 b2;have hgs : g < w6.heap.size := Nat.lt_of_lt_of_le hg hbA.size;have hne := BelowOf.any w6;have ma := at_ahead;have mo := at_on;have d0 := BelowOf.cell ((hbA.cell (p := ⟨g,off + k' * 3,none⟩) hg).trans b0) hgs;have d1 := BelowOf.cell ((hbA.cell (p := ⟨g,off + k' * 3 + 1,none⟩) hg).trans b1) hgs;have d2 := BelowOf.cell ((hbA.cell (p := ⟨g,off + k' * 3 + 2,none⟩) hg).trans b2) hgs;have f0 := BelowOf.cell (at_cell kB 0) sB;have f1 := BelowOf.cell (at_cell kB 1) sB;have f2 := BelowOf.cell (at_cell kB 2) sB;have hw1 : IntKind.i64.wrap ((k' : Int) + 1 - 1) = k' := by rw [IntKind.wrap_i64];omega
        have hw2 : (k' : Int) + 1 - 1 = k' := by omega
        have hw3 : IntKind.i64.wrap (k' : Int) = k' := by rw [IntKind.wrap_i64];omega
        have hi0 : (0 : Int) <= (k' : Int) := by omega
        have hi1 : (k' : Int) < (rs.length : Int) := by omega
        have hq0 : (0 : Int) < (k' : Int) + 1 := by omega
        by_cases h1 : qf + qc <= f
        · have HA : ∀ q : BelowOf w6,Calls Tryz.prog 202 #[.agg #[.int .i64 qf,.int .i64 qc,.int .i64 qp],.agg #[.int .i64 f,.int .i64 c,.int .i64 p]] q.w' fun e w' => e = .returned (.bool true) /\ Below q.w'.heap.size q.w' w' := fun q => by have h := implRun_ahead qf qc qp f c p q.w' (by omega);rwa [decide_eq_true h1] at h
          by_cases h2 : qf + qc = f /\ qp + qc = p
          · have HO : ∀ q : BelowOf w6,Calls Tryz.prog 201 #[.agg #[.int .i64 qf,.int .i64 qc,.int .i64 qp],.agg #[.int .i64 f,.int .i64 c,.int .i64 p]] q.w' fun e w' => e = .returned (.bool true) /\ Below q.w'.heap.size q.w' w' := fun q => by have h := implRun_on qf qc qp f c p q.w' (by omega);rwa [decide_eq_true h2.1,decide_eq_true h2.2] at h
            have HV : Hid _ := HNO.out (runOk_false e _ f c p (fun h => h.2.2.2.2.2.2 _ hpq ⟨by omega,by simp only;omega⟩));clear HYES HNO HPVB HPREV HK0 hpq
            go_wp2_with fail
            refine wp_region_of (by kernel_rfl) (by kernel_rfl) ?_
            repeat (go_big_quiet_step ((first | (go_at_call 202;exact calls_of (HA _)) | (go_at_call 201;exact calls_of (HO _)) | rfl)))
            refine wpQuiet_nil ?_;intro w7 hw7;obtain ⟨⟨wx,cx⟩,hwx⟩ := hw7;have b7 : Below w6.heap.size w6 w7 := by rw [hwx];exact cx
            have hb7 := bw_call hbA b7;clear hwx cx wx hne d0 d1 d2 f0 f1 f2 HA HO
            go_wp2_with fail
            go_ret;exact ⟨ret_bool HV.out.symm,hb7⟩
          · have HO : ∀ q : BelowOf w6,Calls Tryz.prog 201 #[.agg #[.int .i64 qf,.int .i64 qc,.int .i64 qp],.agg #[.int .i64 f,.int .i64 c,.int .i64 p]] q.w' fun e w' => e = .returned (.bool false) /\ Below q.w'.heap.size q.w' w' := fun q => by
              have h := implRun_on qf qc qp f c p q.w' (by omega)
              rwa [show (decide (qf + qc = f) && decide (qp + qc = p)) = false by simpa using h2] at h
            have HV : Hid _ := HYES.out ((runOk_iff e _ f c p).2 ⟨by omega,by omega,by omega,by omega,by omega,by omega,fun q hq h => by rw [hpq] at hq;cases hq;simp only at h;omega⟩);clear HYES HNO HPVB HPREV HK0 hpq
            go_wp2_with fail
            refine wp_region_of (by kernel_rfl) (by kernel_rfl) ?_
            repeat (go_big_quiet_step ((first | (go_at_call 202;exact calls_of (HA _)) | (go_at_call 201;exact calls_of (HO _)) | rfl)))
            refine wpQuiet_nil ?_;intro w7 hw7;obtain ⟨⟨wx,cx⟩,hwx⟩ := hw7;have b7 : Below w6.heap.size w6 w7 := by rw [hwx];exact cx
            have hb7 := bw_call hbA b7;clear hwx cx wx hne d0 d1 d2 f0 f1 f2 HA HO
            go_wp2_with fail
            go_roundw
            case rel => exact ⟨k' + 1 + 1,f + c,by omega,by go_num,fun h => by omega,HV.out,HRR.out,hb7⟩
            case measure => simp [intOf];omega
        · have HA : ∀ q : BelowOf w6,Calls Tryz.prog 202 #[.agg #[.int .i64 qf,.int .i64 qc,.int .i64 qp],.agg #[.int .i64 f,.int .i64 c,.int .i64 p]] q.w' fun e w' => e = .returned (.bool false) /\ Below q.w'.heap.size q.w' w' := fun q => by have h := implRun_ahead qf qc qp f c p q.w' (by omega);rwa [decide_eq_false h1] at h
          have HV : Hid _ := HNO.out (runOk_false e _ f c p (fun h => by omega));clear HYES HNO HPVB HPREV HK0 hpq
          go_wp2_with fail
          refine wp_region_of (by kernel_rfl) (by kernel_rfl) ?_
          repeat (go_big_quiet_step ((first | (go_at_call 202;exact calls_of (HA _)) | rfl)))
          refine wpQuiet_nil ?_;intro w7 hw7;obtain ⟨⟨wx,cx⟩,hwx⟩ := hw7;have b7 : Below w6.heap.size w6 w7 := by rw [hwx];exact cx
          have hb7 := bw_call hbA b7;clear hwx cx wx hne d0 d1 d2 f0 f1 f2 HA
          go_wp2_with fail
          go_ret;exact ⟨ret_bool HV.out.symm,hb7⟩
    · have hl : rs.drop k = [] := List.drop_of_length_le (by omega)
      have hv : okFrom 0 none rs = true := by rw [hok,hl];rfl
      have HV : Hid _ := hv;clear hl hv hok
      go_wp2_with fail
      go_ret;exact ⟨ret_bool HV.out.symm,hb⟩
theorem implMapOk_any (v : Value) (rs : List (Int × Int × Int)) (w : World) (hfit : FitRuns rs) (r : ReadsR 3 runC w.heap.size w v rs) :
    Calls Tryz.prog 134 #[v] w fun e w' => e = .returned (.bool (mapOk rs)) /\ Below w.heap.size w w' := by
  have r0 := r;obtain ⟨o,cap,rfl,hm,hc,-⟩ := r;unfold maxLen at hm;clear hc;by_cases hl : rs.length <= 16
  · have HV : Hid (okFrom 0 none rs = mapOk rs) := by rw [Hid,mapOk,decide_eq_true hl,Bool.and_true]
    have hl2 : (rs.length : Int) <= 16 := by omega
    go_enter Tryz.func134,Tryz.ntmps134
    go_wp2_with fail
    refine (listRight_any _ rs _ hfit r0).mono ?_;rintro e w1 ⟨rfl,b1⟩
    go_wp2_with fail
    go_ret;exact ⟨ret_bool HV.out,b1⟩
  · have HV : Hid (mapOk rs = false) := by rw [Hid,mapOk,decide_eq_false hl,Bool.and_false]
    have hl2 : ¬ (rs.length : Int) <= 16 := by omega
    go_enter Tryz.func134,Tryz.ntmps134
    go_wp2_with fail
    go_ret;exact ⟨ret_bool HV.out.symm,Below.refl _ _⟩
def negs (k : Nat) : List Int := List.replicate k (-1) ++ List.replicate (16 - k) 0
theorem negs_step (k : Nat) (h : k < 16) : (negs k).set k (-1) = negs (k + 1) := by
  have h16 : k = 0 \/ k = 1 \/ k = 2 \/ k = 3 \/ k = 4 \/ k = 5 \/ k = 6 \/ k = 7 \/ k = 8 \/ k = 9 \/ k = 10 \/ k = 11 \/ k = 12 \/ k = 13 \/ k = 14 \/ k = 15 := by omega
  rcases h16 with rfl | rfl | rfl | rfl | rfl | rfl | rfl | rfl | rfl | rfl | rfl | rfl | rfl | rfl | rfl | rfl <;> rfl
def zeros16 : Array Value := #[.int .i64 0,.int .i64 0,.int .i64 0,.int .i64 0,.int .i64 0,.int .i64 0,.int .i64 0,.int .i64 0,.int .i64 0,.int .i64 0,.int .i64 0,.int .i64 0,.int .i64 0,.int .i64 0,.int .i64 0,.int .i64 0]
theorem negs_length (k : Nat) (h : k <= 16) : (negs k).length = 16 := by simp [negs];omega
theorem info16 : (Tryz.prog.info? 168).map (·.size) = some 16 := by kernel_rfl
set_option maxHeartbeats 3200000 in
theorem pageByPlace_any (v : Value) (rs : List (Int × Int × Int)) (w : World) (hok : mapOk rs = true) (r : ReadsR 3 runC w.heap.size w v rs) :
    Calls Tryz.prog 162 #[v] w fun e w' => ∃ c : Array Value,e = .returned (.agg c) /\ c.toList = (pages rs).map (Value.int .i64) /\ Below w.heap.size w w' := by
  obtain ⟨o,cap,rfl,hm,hc,-⟩ := r;have HC : Hid _ := three_cells hc;have HM : Hid _ := okFrom_mem rs 0 none (mapOk_from hok) (by omega);unfold maxLen at hm;clear hc hok
  go_enter Tryz.func162,Tryz.ntmps162
  go_wp2_with fail
  have own0 : ((w.alloc (.cells zeros16 168)).alloc (.cells zeros16 168)).ownsRow (w.heap.size + 1) 168 1 (.slice (some ⟨w.heap.size + 1,0,none⟩) 16 16) 16 ((negs 0).map (Value.int .i64)) := by
    have h := World.ownsRow_lit (e := 168) (size := 1) (base := w.heap.size + 1) (w.alloc (.cells zeros16 168)) zeros16 16 (by simp) (by unfold maxLen;omega) rfl;have e0 : (w.alloc (.cells zeros16 168)).heap.size = w.heap.size + 1 := by simp
    rw [e0] at h;exact h
  have k0 : ((w.alloc (.cells zeros16 168)).alloc (.cells zeros16 168)).heap[w.heap.size]? = some (.cells zeros16 168 (0,0)) :=
    ((bw_alloc (o := .cells zeros16 168) (Below.refl (w.alloc (.cells zeros16 168)).heap.size (w.alloc (.cells zeros16 168)))).block w.heap.size (by simp)).trans (heap_alloc_new w _)
  have d0 : Below w.heap.size w ((w.alloc (.cells zeros16 168)).alloc (.cells zeros16 168)) := bw_alloc (bw_alloc (Below.refl _ _))
  go_loopw [9] (fun i wr => ∃ (k : Nat),k <= 16 /\ i = .int .i64 k /\ wr.ownsRow (w.heap.size + 1) 168 1 (.slice (some ⟨w.heap.size + 1,0,none⟩) 16 16) 16 ((negs k).map (Value.int .i64)) /\ wr.heap[w.heap.size]? = some (.cells zeros16 168 (0,0)) /\ Below w.heap.size w wr) (fun i _ => 16 - (intOf i).toNat)
  case atStart => exact ⟨0,Nat.zero_le _,rfl,own0,k0,d0⟩
  case round =>
    clear own0 k0 d0;obtain ⟨k,hk,rfl,own,kA,hb⟩ := hrel;by_cases hlt : k < 16
    · have hk1 : (k : Int) < 16 := by omega
      have hk0 : (0 : Int) <= (k : Int) := by omega
      have t0 := own.cellAt k (by omega);have t1 := own.frozenAt k;have hnl := negs_length k hk;rw [List.getElem?_map,List.getElem?_eq_getElem (show k < (negs k).length by omega)] at t0;simp only [Option.map_some] at t0;obtain ⟨hst,hgr⟩ := own.stored k (.int .i64 (-1));rw [<- List.map_set,negs_step k hlt] at hst;have kA' := (hgr.block w.heap.size (heap_lt kA) (by simp)).trans kA;have hbf : Below w.heap.size w (wr.setCell ⟨w.heap.size + 1,k,none⟩ (.int .i64 (-1))) := bw_set (p := ⟨w.heap.size + 1,k,none⟩) hb (by simp) _;have HO : Hid _ := And.intro hst (And.intro kA' hbf);generalize (negs k)[k] = y at t0;clear hst hgr kA' hbf own hnl kA
      go_wp2_with fail
      go_roundw
      case rel => exact ⟨k + 1,by omega,by go_num,HO.out.1,HO.out.2.1,HO.out.2.2⟩
      case measure => simp [intOf];omega
    · obtain rfl : k = 16 := by omega
      have e16 : negs 16 = none16 := rfl;rw [e16] at own
      go_wp2_with fail
      go_loopw [17] (fun i wr2 => ∃ (q : Nat),q <= rs.length /\ i = .int .i64 q /\ wr2.ownsRow (w.heap.size + 1) 168 1 (.slice (some ⟨w.heap.size + 1,0,none⟩) 16 16) 16 (((rs.take q).foldl layRun none16).map (Value.int .i64)) /\ wr2.heap[w.heap.size]? = some (.cells zeros16 168 (0,0)) /\ Below w.heap.size w wr2) (fun i _ => rs.length - (intOf i).toNat)
      case atStart => exact ⟨0,Nat.zero_le _,rfl,own,kA,hb⟩
      case round =>
        clear own hb kA;obtain ⟨q,hq,rfl,own,kA,hb⟩ := hrel;by_cases hlt2 : q < rs.length
        · obtain ⟨g1,off,rfl,hg1,a0,a1,a2⟩ := HC.out q hlt2
          have hr := HM.out rs[q] (List.getElem_mem hlt2);have HTF : Hid _ := take_fold rs q hlt2;have hl16 : ((rs.take q).foldl layRun none16).length = 16 := by rw [foldl_length];rfl
          generalize (rs.take q).foldl layRun none16 = L at own HTF hl16;generalize rs[q] = x at a0 a1 a2 hr HTF;obtain ⟨f,c,p⟩ := x;simp only at a0 a1 a2 hr;obtain ⟨F,rfl⟩ := Int.eq_ofNat_of_zero_le hr.1;obtain ⟨C,rfl⟩ := Int.eq_ofNat_of_zero_le (show 0 <= c by omega);have HL : Hid (L.length = 16) := hl16;replace a0 := (hb.cell (p := ⟨g1,off + q * 3,none⟩) hg1).trans a0;replace a1 := (hb.cell (p := ⟨g1,off + q * 3 + 1,none⟩) hg1).trans a1;replace a2 := (hb.cell (p := ⟨g1,off + q * 3 + 2,none⟩) hg1).trans a2;have own2 : (wr.alloc (.cells #[.int .i64 (F : Int),.int .i64 (C : Int),.int .i64 p] 129)).ownsRow (w.heap.size + 1) 168 1 (.slice (some ⟨w.heap.size + 1,0,none⟩) 16 16) 16 ((lay L F p 0).map (Value.int .i64)) := own.alloc _;have bsz := (own.lt (w.heap.size + 1) rfl).2;have kA2 := (Below.block (bw_alloc (o := .cells #[.int .i64 (F : Int),.int .i64 (C : Int),.int .i64 p] 129) (Below.refl wr.heap.size wr)) _ (heap_lt kA)).trans kA;have kB2 := heap_alloc_new wr (.cells #[.int .i64 (F : Int),.int .i64 (C : Int),.int .i64 p] 129);have hb2 : Below w.heap.size w (wr.alloc (.cells #[.int .i64 (F : Int),.int .i64 (C : Int),.int .i64 p] 129)) := bw_alloc hb;have hbB : w.heap.size + 1 < wr.heap.size := bsz;clear hl16 own kA hb
          go_wp2_with fail
          generalize wr.alloc (.cells #[.int .i64 (F : Int),.int .i64 (C : Int),.int .i64 p] 129) = W5 at *;generalize wr.heap.size = nB at *
          go_loopw [23] (fun i wr3 => ∃ (k : Nat),k <= C /\ i = .int .i64 k /\ wr3.ownsRow (w.heap.size + 1) 168 1 (.slice (some ⟨w.heap.size + 1,0,none⟩) 16 16) 16 ((lay L F p k).map (Value.int .i64)) /\ wr3.heap[w.heap.size]? = some (.cells zeros16 168 (0,0)) /\ wr3.heap[nB]? = some (.cells #[.int .i64 (F : Int),.int .i64 (C : Int),.int .i64 p] 129 (0,0)) /\ Below w.heap.size w wr3) (fun i _ => C - (intOf i).toNat)
          case atStart => exact ⟨0,Nat.zero_le _,rfl,own2,kA2,kB2,hb2⟩
          case round =>
            clear own2 kA2 kB2 hb2;obtain ⟨k,hk2,rfl,own,kA,kB,hb⟩ := hrel;by_cases hlt3 : k < C
            · have hll : (lay L F p k).length = 16 := by rw [lay_length];exact HL.out
              have t0 := own.cellAt (F + k) (by omega);have t1 := own.frozenAt (F + k);rw [List.getElem?_map,List.getElem?_eq_getElem (show F + k < (lay L F p k).length by omega)] at t0;simp only [Option.map_some] at t0;obtain ⟨hst,hgr⟩ := own.stored (F + k) (.int .i64 (p + k));rw [<- List.map_set] at hst;have kA' := (hgr.block w.heap.size (heap_lt kA) (by simp)).trans kA;have kB' := (hgr.block nB (heap_lt kB) (by simp;omega)).trans kB;have hbf : Below w.heap.size w (wr.setCell ⟨w.heap.size + 1,F + k,none⟩ (.int .i64 (p + k))) := bw_set (p := ⟨w.heap.size + 1,F + k,none⟩) hb (by simp) _;have HO : Hid _ := And.intro hst (And.intro kA' (And.intro kB' hbf));obtain ⟨b0,b1,b2⟩ := c3 kB;generalize (lay L F p k)[F + k] = y at t0;clear hst hgr kA' kB' hbf own hll kA kB;have hi0 : (0 : Int) <= (F : Int) + (k : Int) := by omega
              have hi1 : (F : Int) + (k : Int) < 16 := by omega
              have hw1 : IntKind.i64.wrap ((F : Int) + (k : Int)) = (F : Int) + (k : Int) := by rw [IntKind.wrap_i64];omega
              have hw2 : IntKind.i64.wrap (p + (k : Int)) = p + (k : Int) := by rw [IntKind.wrap_i64];omega
              have hw3 : ((F : Int) + (k : Int)).toNat = F + k := by omega
              go_wp2_with fail
              go_roundw
              case rel => exact ⟨k + 1,by omega,by go_num,HO.out.1,HO.out.2.1,HO.out.2.2.1,HO.out.2.2.2⟩
              case measure => simp [intOf];omega
            · obtain rfl : k = C := by omega
              have e2 : ((rs.take (q + 1)).foldl layRun none16) = lay L F p k := by rw [HTF.out];rfl
              rw [<- e2] at own;have HO : Hid _ := own;clear own e2
              go_wp2_with fail
              go_roundw
              case rel => exact ⟨q + 1,by omega,by go_num,HO.out,kA,hb⟩
              case measure => simp [intOf];omega
        · have hfin : rs.take q = rs := List.take_of_length_le (by omega)
          rw [hfin] at own;obtain ⟨cur,hcur,hcl⟩ := own_cells own;have hcs : cur.size = 16 := by rw [<- Array.length_toList,hcl,List.length_map];exact pages_length rs
          have HCL : Hid (cur.toList = (pages rs).map (Value.int .i64)) := hcl;have H1 : Hid (cur.all (·.oneCell') = true) := one_cells _ cur hcl;have HI : Hid ((Tryz.prog.info? 168).map (·.size) = some cur.size) := by rw [hcs];exact info16
          have HZ : Hid (zeros16.size = cur.size) := by rw [hcs];rfl
          have HCUR : Hid _ := hcur;have HKA : Hid _ := kA;have hbS : Below w.heap.size w (wr.setRow w.heap.size cur) := hb.trans (setRow_below (Nat.le_refl _));have hrow := setRow_row (cs := cur) kA;have HLD : Hid _ := run_loadVar_row (P := Tryz.prog) _ w.heap.size 168 168 cur (0,0) _ hrow Tryz.underlying168 rfl HI.out;clear own hfin hcur hcl kA hcs hrow
          go_wp2_with (first | (with_reducible refine wpList_load_arr rfl _ 168 rfl (w.heap.size + 1) rfl cur 168 (0,0) HCUR.out _ Tryz.underlying168 rfl HI.out ?_) | (with_reducible refine wpList_store_arr rfl _ _ 168 rfl w.heap.size rfl cur rfl zeros16 168 HKA.out HI.out HZ.out H1.out ?_))
          refine bodyPost_ret (v := .agg cur) ?_ rfl ⟨cur,rfl,HCL.out,hbS⟩;simp [results,Tryz.results162,asAddr,Act.put,HLD.out]
theorem arr_at (L : List Int) (c : Array Value) (h : c.toList = L.map (Value.int .i64)) (k : Nat) (hk : k < L.length) : c[k]? = some (.int .i64 (L.getD k 0)) := by
  rw [<- Array.getElem?_toList,h,List.getElem?_map,List.getElem?_eq_getElem hk,List.getD_eq_getElem?_getD,List.getElem?_eq_getElem hk]
  rfl
theorem arr_size (L : List Int) (c : Array Value) (h : c.toList = L.map (Value.int .i64)) : c.size = L.length := by rw [<- Array.length_toList,h,List.length_map]
theorem index16 (c : Array Value) (k : Nat) (y : Int) (hk : k < 16) (hck : c[k]? = some (.int .i64 y)) (w : World) : (Instr.index 168 (.agg c) (.int .i64 (k : Int))).run Tryz.prog w = .ok (.int .i64 y) w := by
  simp [Instr.index,part,go_sem,hck];intro h;exact absurd hk (by omega)
set_option maxHeartbeats 800000 in
theorem implPageOf_any (v : Value) (rs : List (Int × Int × Int)) (place : Int) (w : World) (hfit : FitRuns rs) (r : ReadsR 3 runC w.heap.size w v rs) :
    Calls Tryz.prog 145 #[v,.int .i64 place] w fun e w' => e = .returned (.int .i64 (pageOf rs place)) /\ Below w.heap.size w w' := by
  go_enter Tryz.func145,Tryz.ntmps145
  go_wp2_with fail
  refine (implMapOk_any v rs _ hfit r).mono ?_;rintro e w1 ⟨rfl,b1⟩;have r1 := (r.below b1).mono b1.size;cases hok : mapOk rs
  · have HV : Hid (pageOf rs place = -1) := by rw [Hid,pageOf,if_neg (fun q => by rw [hok] at q;cases q.1)]
    go_wp2_with fail
    go_ret;exact ⟨ret_int HV.out.symm,b1⟩
  · have HOK : Hid (mapOk rs = true) := hok
    clear hok
    go_wp2_with fail
    refine (placeOk_any place _).mono ?_;rintro e w2 ⟨rfl,rfl⟩;cases hp : (decide ((0 : Int) <= place) && decide (place <= 15))
    · have HV : Hid (pageOf rs place = -1) := by
        rw [Hid,pageOf,if_neg];rintro ⟨_,h1,h2⟩;simp [h1,h2] at hp
      go_wp2_with fail
      go_ret;exact ⟨ret_int HV.out.symm,b1⟩
    · have hp2 : 0 <= place /\ place <= 15 := by simpa using hp
      have hv : pageOf rs place = (pages rs).getD place.toNat 0 := by rw [pageOf,if_pos ⟨HOK.out,hp2⟩]
      obtain ⟨k,rfl⟩ := Int.eq_ofNat_of_zero_le hp2.1;rw [Int.toNat_natCast] at hv;have HV : Hid _ := hv;clear hv
      go_wp2_with fail
      refine (pageByPlace_any v rs _ HOK.out r1).mono ?_;rintro e w3 ⟨c,rfl,hcl,b3⟩;have hpl := pages_length rs;have hck := arr_at (pages rs) c hcl k (by omega);have hcs := arr_size (pages rs) c hcl;rw [hpl] at hcs;have hix := fun w => index16 c k _ (by omega) hck w
      clear hcl hpl hck;generalize (pages rs).getD k 0 = y at hix HV;have h0 : (0 : Int) <= (k : Int) := by omega
      have h1 : (k : Int) < 16 := by omega
      have bf := bw_call b1 b3
      go_wp2_with fail
      go_ret;exact ⟨ret_int HV.out.symm,bf⟩
theorem OwnS.answer {base c : Nat} {W W' : World} {v1 v2 vb : Value} {cs ps : List Int} {bks : List Bk} {xs : Array Value} (h : OwnS base W v1 v2 vb cs ps bks) (k : W.heap[c]? = some (.cells xs 42 (0,0))) (u : Upto c W W') : OwnS base W' v1 v2 vb cs ps bks := by
  have st : ∀ (e : TypeId) (kk n : Nat) (v : Value) (xs : List Value),42 ≠ e -> W.ownsRow base e kk v n xs -> W'.ownsRow base e kk v n xs := fun e kk n v xs he hr => own_rng_not hr (fun q hq hqv => u.block q hq (fun hx => own_not_box hr k he (by rw [<- hx];exact hqv)))
  exact ⟨⟨st _ _ _ _ _ (by decide) h.p.c,st _ _ _ _ _ (by decide) h.p.p,h.p.apart⟩,⟨st _ _ _ _ _ (by decide) h.b.row,fun b hb => st _ _ _ _ _ (by decide) (h.b.maps b hb)⟩,h.a⟩
theorem OwnB.at {base : Nat} {w : World} {vb : Value} {bks : List Bk} (h : OwnB base w vb bks) (i : Nat) (hi : i < bks.length) : ∃ g cap,vb = .slice (some ⟨g,0,none⟩) bks.length cap := by
  obtain ⟨n,hn1⟩ : ∃ n,bks.length = n + 1 := ⟨bks.length - 1,by omega⟩
  have hr := h.row;rw [hn1] at hr ⊢;exact owns_form hr
end Go.Proofs.YtcefcglonooelaaGreatDoor
