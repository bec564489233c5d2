import Derived.Deep.RegionLaw
import Derived.Test.YtcefcglonooelaaGreatDoorA01
import Derived.Test.YtcefcglonooelaaGreatDoorA02
import Derived.Test.YtcefcglonooelaaGreatDoorA03
namespace Go.Proofs.YtcefcglonooelaaGreatDoor
open Go.RowKit
set_option linter.unusedVariables false
theorem okFrom_mem (rs : List (Int × Int × Int)) (e : Int) (pv : Option (Int × Int × Int)) (h : okFrom e pv rs = true) (he : 0 <= e) : ∀ r ∈ rs,0 <= r.1 /\ 1 <= r.2.1 /\ r.1 + r.2.1 <= 16 /\ 0 <= r.2.2 /\ r.2.2 + r.2.1 <= 24 := by
  induction rs generalizing e pv with
  | nil => intro r hr;cases hr
  | cons q qs ih =>
    obtain ⟨f,c,p⟩ := q;rw [okFrom,Bool.and_eq_true,runOk_iff] at h;intro r hr;rcases List.mem_cons.1 hr with rfl | hr
    · simp only;omega
    · exact ih _ _ h.2 (by simp only;omega) r hr
theorem take_fold (rs : List (Int × Int × Int)) (i : Nat) (h : i < rs.length) : (rs.take (i + 1)).foldl layRun none16 = layRun ((rs.take i).foldl layRun none16) rs[i] := by
  rw [List.take_succ_eq_append_getElem h,List.foldl_append];rfl
set_option maxHeartbeats 3200000 in
theorem l5Pages_any (v : Value) (rs : List (Int × Int × Int)) (w : World) (hok : mapOk rs = true) (r : ReadsR 3 runC w.heap.size w v rs) :
    Calls Tryz.prog 97 #[v] w fun e w' => ∃ g cap : Nat,e = .returned (.slice (some ⟨g,0,none⟩) 16 cap) /\ w'.ownsRow w.heap.size 2 1 (.slice (some ⟨g,0,none⟩) 16 cap) 16 ((pages rs).map (Value.int .i64)) /\ Below w.heap.size w w' := by
  obtain ⟨i0,hi,hz0,hz1,hz2⟩ := info_parts Tryz.infoI64;obtain ⟨o,cap,rfl,hm,hc,-⟩ := r;have HC : Hid _ := three_cells hc;have HM : Hid _ := okFrom_mem rs 0 none (mapOk_from hok) (by omega);unfold maxLen at hm;have own0 : (w.alloc (.cells #[] 2)).ownsRow w.heap.size 2 1 (.slice (some ⟨w.heap.size,0,none⟩) 0 0) 0 [] := World.ownsRow_lit w #[] 0 (Nat.le_refl _) (Nat.zero_le _) rfl;have d0 : Below w.heap.size w (w.alloc (.cells #[] 2)) := bw_alloc (Below.refl _ _);clear hc hok
  go_enter Tryz.func97,Tryz.ntmps97
  go_wp2_with fail
  go_loopw [3,4] (fun q i wr => ∃ (k g cp : Nat),k <= 16 /\ i = .int .i64 k /\ q = .slice (some ⟨g,0,none⟩) k cp /\ wr.ownsRow w.heap.size 2 1 (.slice (some ⟨g,0,none⟩) k cp) k ((List.replicate k (-1 : Int)).map (Value.int .i64)) /\ Below w.heap.size w wr) (fun _ i _ => 16 - (intOf i).toNat)
  case atStart => exact ⟨0,_,_,Nat.zero_le _,rfl,rfl,own0,d0⟩
  case round =>
    clear own0 d0;obtain ⟨k,g,cp,hk,rfl,rfl,own,hb⟩ := hrel;by_cases hlt : k < 16
    · have hk1 : (k : Int) < 16 := by omega
      go_wp2_with (at_builtin;refine wpList_append_own _ rfl _ _ 37 rfl w.heap.size 2 i0 (.int .i64 0) 1 8 Tryz.underlying37 hi hz0 hz1 hz2 rfl (by decide) _ _ _ rfl (own.alloc _) ⟨wr.heap.size,0,none⟩ 1 1 [.int .i64 (-1)] rfl rfl ?c1 ?c2 ?c3 ?c4 ?c5 ?_)
      case c1 => exact new_one _ _ _
      case c2 => intro u hu;simp at hu;subst hu;rfl
      case c3 => unfold maxLen;omega
      case c4 => omega
      case c5 => have := hb.size;simp;omega
      intro v' w3 hown' hgrow hnil;have hb3 : Below w.heap.size w w3 := (bw_alloc hb).grown hgrow (by have := hb.size;simp;omega) (fun q hq => (own.lt q hq).1);have e1 : (List.replicate k (-1 : Int)).map (Value.int .i64) ++ [.int .i64 (-1)] = (List.replicate (k + 1) (-1 : Int)).map (Value.int .i64) := by simp [List.replicate_succ']
      have own3 : w3.ownsRow w.heap.size 2 1 v' (k + 1) ((List.replicate (k + 1) (-1 : Int)).map (Value.int .i64)) := by rw [<- e1];simpa using hown'
      obtain ⟨g',cp',hv'⟩ := owns_form own3;subst hv';have HO : Hid _ := own3;clear hown' hgrow hnil own own3 e1
      go_wp2_with fail
      go_roundw
      case rel => exact ⟨k + 1,g',cp',by omega,by go_num,rfl,HO.out,hb3⟩
      case measure => simp [intOf];omega
    · obtain rfl : k = 16 := by omega
      have e16 : List.replicate 16 (-1 : Int) = none16 := rfl;rw [e16] at own;have hg0 := own.lt g rfl
      go_wp2_with fail
      go_loopw [5] (fun i wr2 => ∃ (q : Nat),q <= rs.length /\ i = .int .i64 q /\ wr2.ownsRow w.heap.size 2 1 (.slice (some ⟨g,0,none⟩) 16 cp) 16 (((rs.take q).foldl layRun none16).map (Value.int .i64)) /\ Below w.heap.size w wr2) (fun i _ => rs.length - (intOf i).toNat)
      case atStart => exact ⟨0,Nat.zero_le _,rfl,own,hb⟩
      case round =>
        clear own hb;obtain ⟨q,hq,rfl,own,hb⟩ := hrel;by_cases hlt2 : q < rs.length
        · obtain ⟨g1,off,rfl,hg1,a0,a1,a2⟩ := HC.out q hlt2
          have hr := HM.out rs[q] (List.getElem_mem hlt2);have HTF : Hid _ := take_fold rs q hlt2;have hl16 : ((rs.take q).foldl layRun none16).length = 16 := by rw [foldl_length];rfl
          generalize (rs.take q).foldl layRun none16 = L at own HTF hl16;generalize rs[q] = x at a0 a1 a2 hr HTF;obtain ⟨f,c,p⟩ := x;simp only at a0 a1 a2 hr;obtain ⟨F,rfl⟩ := Int.eq_ofNat_of_zero_le hr.1;obtain ⟨C,rfl⟩ := Int.eq_ofNat_of_zero_le (show 0 <= c by omega);have HL : Hid (L.length = 16) := hl16;clear hl16
          go_wp2_with fail
          go_loopw [6] (fun i wr3 => ∃ (k : Nat),k <= C /\ i = .int .i64 k /\ wr3.ownsRow w.heap.size 2 1 (.slice (some ⟨g,0,none⟩) 16 cp) 16 ((lay L F p k).map (Value.int .i64)) /\ Below w.heap.size w wr3) (fun i _ => C - (intOf i).toNat)
          case atStart => exact ⟨0,Nat.zero_le _,rfl,own,hb⟩
          case round =>
            clear own hb;obtain ⟨k,hk2,rfl,own,hb⟩ := hrel;replace a0 := (hb.cell (p := ⟨g1,off + q * 3,none⟩) hg1).trans a0;replace a1 := (hb.cell (p := ⟨g1,off + q * 3 + 1,none⟩) hg1).trans a1;replace a2 := (hb.cell (p := ⟨g1,off + q * 3 + 2,none⟩) hg1).trans a2;have hne : ¬ g = g1 := by have := (own.lt g rfl).1;omega
            have hne' : ¬ g1 = g := fun e => hne e.symm
            by_cases hlt3 : k < C
            · have hll : (lay L F p k).length = 16 := by rw [lay_length];exact HL.out
              have t0 := own.cellAt (F + k) (by omega);have t1 := own.frozenAt (F + k);rw [List.getElem?_map,List.getElem?_eq_getElem (show F + k < (lay L F p k).length by omega)] at t0;simp only [Option.map_some] at t0;have hst := (own.stored (F + k) (.int .i64 (p + k))).1;rw [<- List.map_set] at hst;have hbf : Below w.heap.size w (wr.setCell ⟨g,F + k,none⟩ (.int .i64 (p + k))) := bw_set (p := ⟨g,F + k,none⟩) hb (own.lt g rfl).1 _;have HO : Hid _ := And.intro hst hbf;generalize (lay L F p k)[F + k] = y at t0;clear hst hbf own hll;have hi0 : (0 : Int) <= (F : Int) + (k : Int) := by omega
              have hi1 : (F : Int) + (k : Int) < 16 := by omega
              have hw1 : IntKind.i64.wrap ((F : Int) + (k : Int)) = (F : Int) + (k : Int) := by rw [IntKind.wrap_i64];omega
              have hw2 : IntKind.i64.wrap (p + (k : Int)) = p + (k : Int) := by rw [IntKind.wrap_i64];omega
              have hw3 : ((F : Int) + (k : Int)).toNat = F + k := by omega
              have hj0 : (0 : Int) <= (q : Int) := by omega
              have hj1 : (q : Int) < (rs.length : Int) := by omega
              go_wp2_with fail
              go_region
              go_wp2_with fail
              go_roundw
              case rel => exact ⟨k + 1,by omega,by go_num,HO.out.1,bw_drew HO.out.2⟩
              case measure => simp [intOf];omega
            · obtain rfl : k = C := by omega
              have e2 : ((rs.take (q + 1)).foldl layRun none16) = lay L F p k := by rw [HTF.out];rfl
              rw [<- e2] at own;have HO : Hid _ := own;clear own e2
              go_wp2_with fail
              go_roundw
              case rel => exact ⟨q + 1,by omega,by go_num,HO.out,hb⟩
              case measure => simp [intOf];omega
        · have hfin : rs.take q = rs := List.take_of_length_le (by omega)
          rw [hfin] at own;have HO : Hid _ := own;clear own hfin
          go_wp2_with fail
          go_ret;exact ⟨g,cp,rfl,HO.out,hb⟩
theorem grow_neg (k : Nat) (v : Int) (acc : List (Int × Int × Int)) (h : v < 0) : grow k v acc = acc := by unfold grow;rw [if_pos h]
theorem grow_nil (k : Nat) (v : Int) (h : ¬ v < 0) : grow k v [] = [((k : Int),1,v)] := by unfold grow;rw [if_neg h];rfl
theorem grow_on (k : Nat) (v : Int) (pre : List (Int × Int × Int)) (f c p : Int) (h : ¬ v < 0) (h1 : f + c = k) (h2 : p + c = v) : grow k v (pre ++ [(f,c,p)]) = pre ++ [(f,c + 1,p)] := by
  unfold grow;rw [if_neg h,List.getLast?_concat];simp only;rw [if_pos ⟨h1,h2⟩,List.dropLast_concat]
theorem grow_new (k : Nat) (v : Int) (pre : List (Int × Int × Int)) (f c p : Int) (h : ¬ v < 0) (h1 : ¬ (f + c = k /\ p + c = v)) : grow k v (pre ++ [(f,c,p)]) = pre ++ [(f,c,p)] ++ [((k : Int),1,v)] := by
  unfold grow;rw [if_neg h,List.getLast?_concat];simp only;rw [if_neg h1]
theorem snoc_of {α : Type} (l : List α) (h : l ≠ []) : ∃ pre x,l = pre ++ [x] := ⟨l.dropLast,l.getLast h,(List.dropLast_concat_getLast h).symm⟩
theorem new_three (w : World) (r : Int × Int × Int) (t : TypeId) : ∀ (j : Nat) (u : Value),(runC r)[j]? = some u -> (w.alloc (.cells #[.int .i64 r.1,.int .i64 r.2.1,.int .i64 r.2.2] t)).cell? ((⟨w.heap.size,0,none⟩ : Addr).add j) = some u := by
  intro j u hj;rw [addr_add]
  match j,hj with
  | 0,hj => simp [runC] at hj;subst hj;simp [go_sem]
  | 1,hj => simp [runC] at hj;subst hj;simp [go_sem]
  | 2,hj => simp [runC] at hj;subst hj;simp [go_sem]
set_option maxRecDepth 100000 in
set_option maxHeartbeats 6400000 in
theorem l5Map_any (v : Value) (l : List Int) (w : World) (hl : l.length = 16) (hv : ∀ j,j < 16 -> -1 <= l.getD j 0 /\ l.getD j 0 <= 23) (r : Reads w.heap.size w v (l.map (Value.int .i64))) :
    Calls Tryz.prog 105 #[v] w fun e w' => ∃ v' : Value,e = .returned v' /\ w'.ownsRow w.heap.size 129 3 v' (mapOf l).length ((mapOf l).flatMap runC) /\ v' ≠ .slice none 0 0 /\ Below w.heap.size w w' := by
  obtain ⟨i0,hi,hz0,hz1,hz2⟩ := info_parts Tryz.infoRun;obtain ⟨o,cap,rfl,hm,hc,-⟩ := r;have hlm : (l.map (Value.int .i64)).length = 16 := by simp [hl]
  rw [hlm];have HC : Hid (∀ j,j < 16 -> ∃ g off,o = some ⟨g,off,none⟩ /\ g < w.heap.size /\ w.cell? ⟨g,off + j,none⟩ = some (.int .i64 (l.getD j 0))) := fun j hj => hc j _ (by rw [List.getElem?_map,List.getElem?_eq_getElem (by omega),List.getD_eq_getElem?_getD,List.getElem?_eq_getElem (by omega)];rfl)
  have HU : Hid (∀ n,n <= 16 -> UptoOk l n (upto l n)) := fun n hn => upto_ok l hl hv n hn
  have HV : Hid _ := hv;have HF : Hid (mapOf l = upto l 16) := by rw [Hid,mapOf,hl]
  have own0 : (w.alloc (.cells #[] 129)).ownsRow w.heap.size 129 3 (.slice (some ⟨w.heap.size,0,none⟩) 0 0) 0 [] := World.ownsRow_lit w #[] 0 (Nat.le_refl _) (Nat.zero_le _) rfl;have d0 : Below w.heap.size w (w.alloc (.cells #[] 129)) := bw_alloc (Below.refl _ _);clear hc hm hlm hv hl
  go_enter Tryz.func105,Tryz.ntmps105
  go_wp2_with fail
  go_loopw [3,4] (fun q i wr => ∃ (k g cp : Nat) (acc : List (Int × Int × Int)),k <= 16 /\ i = .int .i64 k /\ q = .slice (some ⟨g,0,none⟩) acc.length cp /\ acc = upto l k /\ wr.ownsRow w.heap.size 129 3 (.slice (some ⟨g,0,none⟩) acc.length cp) acc.length (acc.flatMap runC) /\ Below w.heap.size w wr) (fun _ i _ => 16 - (intOf i).toNat)
  case atStart => exact ⟨0,_,_,[],Nat.zero_le _,rfl,rfl,rfl,own0,d0⟩
  case round =>
    clear own0 d0;obtain ⟨k,g,cp,acc,hk,rfl,rfl,hacc,own,hb⟩ := hrel;have HACC : Hid (acc = upto l k) := hacc;by_cases hlt : k < 16
    · obtain ⟨g1,off,rfl,hg1,a0⟩ := HC.out k hlt
      have hvb := HV.out k hlt;have hup := HU.out k hk;rw [<- hacc] at hup;have HNX : Hid (upto l (k + 1) = grow k (l.getD k 0) acc) := by rw [Hid,hacc];rfl
      have hfew := hup.few;replace a0 := (hb.cell (p := ⟨g1,off + k,none⟩) hg1).trans a0;have hmem := okFrom_mem acc 0 none hup.ok (by omega);have HMEM : Hid _ := hmem;have HEND : Hid _ := hup.endAt;clear hmem hup hacc HC HV HU;generalize l.getD k 0 = z at a0 hvb HNX;have hk0 : (0 : Int) <= (k : Int) := by omega
      have hk1 : (k : Int) < 16 := by omega
      by_cases hneg : z < 0
      · have HN2 : Hid (acc = upto l (k + 1)) := by rw [Hid,HNX.out,grow_neg k z acc hneg]
        go_wp2_with fail
        go_roundw
        case rel => exact ⟨k + 1,g,cp,acc,by omega,by go_num,rfl,HN2.out,own,hb⟩
        case measure => simp [intOf];omega
      · by_cases hA : acc = []
        · have HN2 : Hid ([] ++ [((k : Int),1,z)] = upto l (k + 1)) := by rw [Hid,HNX.out,hA,grow_nil k z hneg];rfl
          subst hA;have OWN : Hid (∀ (n : Nat) (o : Obj),((wr.drewN n).alloc o).ownsRow w.heap.size 129 3 (.slice (some ⟨g,0,none⟩) 0 cp) 0 []) := fun n o => (owns_below own (by exact ⟨rfl,rfl,rfl,Nat.le_refl _,fun _ _ => rfl⟩)).alloc o
          have OWNL : Hid (∀ q,(Value.slice (some ⟨g,0,none⟩) 0 cp).ownBlock = some q -> w.heap.size <= q) := fun q hq => (own.lt q hq).1
          clear own
          go_wp2_with fail
          go_quiet (fail)
          go_wp2_with (at_builtin;refine wpList_append_own _ rfl _ _ 85 rfl w.heap.size 129 i0 (.agg #[.int .i64 0,.int .i64 0,.int .i64 0]) 3 24 Tryz.underlying85 hi hz0 hz1 hz2 rfl (by decide) _ _ _ rfl (OWN.out _ _) ⟨wr.heap.size,0,none⟩ 1 1 (runC ((k : Int),1,z)) rfl rfl ?c1 ?c2 ?c3 ?c4 ?c5 ?_)
          case c1 => exact new_three _ _ _
          case c2 => intro u hu;simp [runC] at hu;rcases hu with rfl | rfl | rfl <;> rfl
          case c3 => have hmx : (20 : Nat) <= maxLen := by unfold maxLen;omega
                     omega
          case c4 => omega
          case c5 => have := hb.size;simp;omega
          intro v' w3 hown' hgrow hnil;have own3 : w3.ownsRow w.heap.size 129 3 v' (([] : List (Int × Int × Int)) ++ [((k : Int),1,z)]).length ((([] : List (Int × Int × Int)) ++ [((k : Int),1,z)]).flatMap runC) := by simpa using hown'
          obtain ⟨g',cp',hv'⟩ : ∃ g' cp',v' = .slice (some ⟨g',0,none⟩) (([] : List (Int × Int × Int)) ++ [((k : Int),1,z)]).length cp' := by
            rcases own3.2 with ⟨e,_⟩ | ⟨g',cp',_,e,_⟩
            · exact absurd e hnil
            · exact ⟨g',cp',e⟩
          have hb3 : Below w.heap.size w w3 := (bw_alloc (show Below w.heap.size w (wr.drewN _) from ⟨hb.os,hb.tape,hb.output,hb.size,hb.block⟩)).grown hgrow (by have := hb.size;simp;omega) (fun q hq => (OWNL.out q hq));subst hv';have HO : Hid _ := own3;clear hown' hgrow hnil own3 OWN
          go_wp2_with fail
          go_roundw
          case rel => exact ⟨k + 1,g',cp',_,by omega,by go_num,by simp,HN2.out,HO.out,hb3⟩
          case measure => simp [intOf];omega
        · obtain ⟨pre,⟨f,c,p⟩,rfl⟩ := snoc_of acc hA
          have hbd := HMEM.out (f,c,p) (by simp);simp only at hbd;have hpl : pre.length + 1 <= 16 := by simp at hfew;omega
          obtain ⟨⟨t0,t1,t2⟩,u0,u1,u2⟩ := own_three own pre.length (by simp);simp only [List.getElem_concat_length] at t0 t1 t2;have hlen : (pre ++ [(f,c,p)]).length = pre.length + 1 := by simp
          have hw1 : IntKind.i64.wrap ((pre.length : Int) + 1 - 1) = pre.length := by rw [IntKind.wrap_i64];omega
          have hw2 : (pre.length : Int) + 1 - 1 = pre.length := by omega
          have hw3 : IntKind.i64.wrap (pre.length : Int) = pre.length := by rw [IntKind.wrap_i64];omega
          have hw4 : IntKind.i64.wrap (f + c) = f + c := by rw [IntKind.wrap_i64];omega
          have hw5 : IntKind.i64.wrap (p + c) = p + c := by rw [IntKind.wrap_i64];omega
          have hj0 : (0 : Int) <= (pre.length : Int) := by omega
          by_cases hon : f + c = k /\ p + c = z
          · have HN2 : Hid (pre ++ [(f,c + 1,p)] = upto l (k + 1)) := by rw [Hid,HNX.out,grow_on k z pre f c p hneg hon.1 hon.2]
            have hput := fun n : Nat => own_put runC_len (owns_below own (show Below wr.heap.size wr (wr.drewN n) from ⟨rfl,rfl,rfl,Nat.le_refl _,fun _ _ => rfl⟩)) pre.length 1 (f,c,p) (f,c + 1,p) (.int .i64 (c + 1)) (by simp) (by omega) rfl
            have hbf := fun n : Nat => bw_set (w := w) (W := wr.drewN n) (p := ⟨g,pre.length * 3 + 1,none⟩) ⟨hb.os,hb.tape,hb.output,hb.size,hb.block⟩ (own.lt g rfl).1 (.int .i64 (c + 1))
            rw [show (pre ++ [(f,c,p)]).set pre.length (f,c + 1,p) = pre ++ [(f,c + 1,p)] by simp] at hput;have HO : Hid _ := fun n => And.intro (hput n) (hbf n)
            have e1 : (f + c == (k : Int)) = true := by simpa using hon.1
            have e2 : (p + c == z) = true := by simpa using hon.2
            clear own hput hbf hon HMEM HEND hA HACC
            go_wp2_with fail
            go_quiet (fail)
            go_wp2_with fail
            go_roundw
            case rel => exact ⟨k + 1,g,cp,pre ++ [(f,c + 1,p)],by omega,by go_num,by simp,HN2.out,by simpa using (HO.out _).1,(HO.out _).2⟩
            case measure => simp [intOf];omega
          · have HN2 : Hid (pre ++ [(f,c,p)] ++ [((k : Int),1,z)] = upto l (k + 1)) := by rw [Hid,HNX.out,grow_new k z pre f c p hneg hon]
            have OWN : Hid (∀ (n : Nat) (o : Obj),((wr.drewN n).alloc o).ownsRow w.heap.size 129 3 (.slice (some ⟨g,0,none⟩) (pre.length + 1) cp) (pre.length + 1) ((pre ++ [(f,c,p)]).flatMap runC)) := fun n o => by
              have h := (owns_below own (show Below wr.heap.size wr (wr.drewN n) from ⟨rfl,rfl,rfl,Nat.le_refl _,fun _ _ => rfl⟩)).alloc o
              rwa [hlen] at h
            have OWNL : Hid (∀ q,(Value.slice (some ⟨g,0,none⟩) (pre.length + 1) cp).ownBlock = some q -> w.heap.size <= q) := fun q hq => (own.lt q (by simpa [Value.ownBlock] using hq)).1
            clear own HMEM HEND hA HACC;by_cases h1 : f + c = (k : Int)
            · have h2 : ¬ p + c = z := fun h => hon ⟨h1,h⟩
              have e1 : (f + c == (k : Int)) = true := by simpa using h1
              have e2 : (p + c == z) = false := by simpa using h2
              clear hon
              go_wp2_with fail
              go_quiet (fail)
              go_wp2_with (at_builtin;refine wpList_append_own _ rfl _ _ 85 rfl w.heap.size 129 i0 (.agg #[.int .i64 0,.int .i64 0,.int .i64 0]) 3 24 Tryz.underlying85 hi hz0 hz1 hz2 rfl (by decide) _ _ _ rfl (OWN.out _ _) ⟨wr.heap.size,0,none⟩ 1 1 (runC ((k : Int),1,z)) rfl rfl ?c1 ?c2 ?c3 ?c4 ?c5 ?_)
              case c1 => exact new_three _ _ _
              case c2 => intro u hu;simp [runC] at hu;rcases hu with rfl | rfl | rfl <;> rfl
              case c3 => have hmx : (20 : Nat) <= maxLen := by unfold maxLen;omega
                         omega
              case c4 => omega
              case c5 => have := hb.size;simp;omega
              intro v' w3 hown' hgrow hnil;have own3 : w3.ownsRow w.heap.size 129 3 v' ((pre ++ [(f,c,p)]) ++ [((k : Int),1,z)]).length (((pre ++ [(f,c,p)]) ++ [((k : Int),1,z)]).flatMap runC) := by simpa using hown'
              obtain ⟨g',cp',hv'⟩ : ∃ g' cp',v' = .slice (some ⟨g',0,none⟩) ((pre ++ [(f,c,p)]) ++ [((k : Int),1,z)]).length cp' := by
                rcases own3.2 with ⟨e,_⟩ | ⟨g',cp',_,e,_⟩
                · exact absurd e hnil
                · exact ⟨g',cp',e⟩
              have hb3 : Below w.heap.size w w3 := (bw_alloc (show Below w.heap.size w (wr.drewN _) from ⟨hb.os,hb.tape,hb.output,hb.size,hb.block⟩)).grown hgrow (by have := hb.size;simp;omega) (fun q hq => (OWNL.out q hq));subst hv';have HO : Hid _ := own3;clear hown' hgrow hnil own3 OWN
              go_wp2_with fail
              go_roundw
              case rel => exact ⟨k + 1,g',cp',_,by omega,by go_num,by simp,HN2.out,HO.out,hb3⟩
              case measure => simp [intOf];omega
            · have e1 : (f + c == (k : Int)) = false := by simpa using h1
              clear hon
              go_wp2_with fail
              go_quiet (fail)
              go_wp2_with (at_builtin;refine wpList_append_own _ rfl _ _ 85 rfl w.heap.size 129 i0 (.agg #[.int .i64 0,.int .i64 0,.int .i64 0]) 3 24 Tryz.underlying85 hi hz0 hz1 hz2 rfl (by decide) _ _ _ rfl (OWN.out _ _) ⟨wr.heap.size,0,none⟩ 1 1 (runC ((k : Int),1,z)) rfl rfl ?c1 ?c2 ?c3 ?c4 ?c5 ?_)
              case c1 => exact new_three _ _ _
              case c2 => intro u hu;simp [runC] at hu;rcases hu with rfl | rfl | rfl <;> rfl
              case c3 => have hmx : (20 : Nat) <= maxLen := by unfold maxLen;omega
                         omega
              case c4 => omega
              case c5 => have := hb.size;simp;omega
              intro v' w3 hown' hgrow hnil;have own3 : w3.ownsRow w.heap.size 129 3 v' ((pre ++ [(f,c,p)]) ++ [((k : Int),1,z)]).length (((pre ++ [(f,c,p)]) ++ [((k : Int),1,z)]).flatMap runC) := by simpa using hown'
              obtain ⟨g',cp',hv'⟩ : ∃ g' cp',v' = .slice (some ⟨g',0,none⟩) ((pre ++ [(f,c,p)]) ++ [((k : Int),1,z)]).length cp' := by
                rcases own3.2 with ⟨e,_⟩ | ⟨g',cp',_,e,_⟩
                · exact absurd e hnil
                · exact ⟨g',cp',e⟩
              have hb3 : Below w.heap.size w w3 := (bw_alloc (show Below w.heap.size w (wr.drewN _) from ⟨hb.os,hb.tape,hb.output,hb.size,hb.block⟩)).grown hgrow (by have := hb.size;simp;omega) (fun q hq => (OWNL.out q hq));subst hv';have HO : Hid _ := own3;clear hown' hgrow hnil own3 OWN
              go_wp2_with fail
              go_roundw
              case rel => exact ⟨k + 1,g',cp',_,by omega,by go_num,by simp,HN2.out,HO.out,hb3⟩
              case measure => simp [intOf];omega
    · obtain rfl : k = 16 := by omega
      have HO : Hid (wr.ownsRow w.heap.size 129 3 (.slice (some ⟨g,0,none⟩) acc.length cp) (mapOf l).length ((mapOf l).flatMap runC)) := by rw [Hid,HF.out,<- HACC.out];exact own
      clear own hacc
      go_wp2_with fail
      go_ret;exact ⟨_,rfl,HO.out,by simp,hb⟩
end Go.Proofs.YtcefcglonooelaaGreatDoor
namespace Go.Proofs.YtcefcglonooelaaGreatDoor
open Go.RowKit
set_option linter.unusedVariables false
set_option maxRecDepth 100000
def endsBy (rs : List (Int × Int × Int)) (sz : Int) : Bool := match rs.getLast? with
  | none => true
  | some r => decide (r.1 + r.2.1 <= sz)
def bookOk (nm : ByteArray) (sz : Int) (rs : List (Int × Int × Int)) (ep : Int) : Bool :=
  Nums.nameB nm.data.toList && (decide (1 <= sz) && decide (sz <= 16)) && (decide (0 <= ep) && decide (ep <= 1000)) && mapOk rs && endsBy rs sz
theorem endsBy_nil (sz : Int) : endsBy [] sz = true := rfl
theorem endsBy_at (rs : List (Int × Int × Int)) (sz : Int) (k : Nat) (h : rs.length = k + 1) : endsBy rs sz = decide ((rs[k]'(by omega)).1 + (rs[k]'(by omega)).2.1 <= sz) := by
  have : rs.getLast? = some (rs[k]'(by omega)) := by rw [List.getLast?_eq_getElem?,show rs.length - 1 = k by omega,List.getElem?_eq_getElem]
  rw [endsBy,this]
theorem map_in (rs : List (Int × Int × Int)) (h : mapOk rs = true) (k : Nat) (hk : k < rs.length) : 0 <= rs[k].1 /\ 1 <= rs[k].2.1 /\ rs[k].1 + rs[k].2.1 <= 16 := by
  have := okFrom_mem rs 0 none (mapOk_from h) (Int.le_refl _) rs[k] (List.getElem_mem hk)
  omega
set_option maxHeartbeats 1600000 in
theorem specBookOk_any (nm : ByteArray) (sz : Int) (m : Value) (rs : List (Int × Int × Int)) (fx : Bool) (ep : Int) (w : World) (hn : nm.size <= maxLen) (r : ReadsR 3 runC w.heap.size w m rs) :
    Calls Tryz.prog 58 #[.agg #[.string nm,.int .i64 sz,m,.bool fx,.int .i64 ep]] w fun e w' => e = .returned (.bool (bookOk nm sz rs ep)) /\ Below w.heap.size w w' := by
  obtain ⟨o,cap,rfl⟩ := r.form;obtain ⟨W0,hW0,k0,d0,z0⟩ := box1 w #[.string nm,.int .i64 sz,.slice o rs.length cap,.bool fx,.int .i64 ep] 87;have r0 := (r.below d0).mono d0.size;have HW0 : Hid (W0 = _) := hW0;have p0 := at_cell k0 0;have p1 := at_cell k0 1;have p2 := at_cell k0 2;have p4 := at_cell k0 4;clear hW0 r
  go_enter Tryz.func58,Tryz.ntmps58
  go_wp2_with fail
  rw [<- HW0.out];clear HW0;refine (specName_any nm _ hn).mono ?_;rintro e w' ⟨rfl,rfl⟩;cases h1 : Nums.nameB nm.data.toList
  · have HV : Hid (bookOk nm sz rs ep = false) := by simp [Hid,bookOk,h1]
    clear h1 k0
    go_wp2_with fail
    go_ret;exact ⟨ret_bool HV.out.symm,d0⟩
  have H1 : Hid _ := h1;clear h1
  go_wp2_with fail
  refine (l1In_any sz 1 16 _).mono ?_;rintro e w' ⟨rfl,rfl⟩;cases h2 : (decide (1 <= sz) && decide (sz <= 16))
  · have HV : Hid (bookOk nm sz rs ep = false) := by simp [Hid,bookOk,h2]
    clear h2 k0
    go_wp2_with fail
    go_ret;exact ⟨ret_bool HV.out.symm,d0⟩
  have H2 : Hid _ := h2;clear h2
  go_wp2_with fail
  refine (l1In_any ep 0 1000 _).mono ?_;rintro e w' ⟨rfl,rfl⟩;cases h3 : (decide (0 <= ep) && decide (ep <= 1000))
  · have HV : Hid (bookOk nm sz rs ep = false) := by simp [Hid,bookOk,h3]
    clear h3 k0
    go_wp2_with fail
    go_ret;exact ⟨ret_bool HV.out.symm,d0⟩
  have H3 : Hid _ := h3;clear h3
  go_wp2_with fail
  refine (specMapOk_any _ rs _ r0).mono ?_;rintro e w1 ⟨rfl,b1⟩;replace k0 := (b1.block _ (by omega)).trans k0;replace d0 := bw_call d0 b1;replace r0 := (r0.below b1).mono b1.size;clear p0 p1 p2 p4;cases h4 : mapOk rs
  · have HV : Hid (bookOk nm sz rs ep = false) := by simp [Hid,bookOk,h4]
    clear h4 k0 r0
    go_wp2_with fail
    go_ret;exact ⟨ret_bool HV.out.symm,d0⟩
  have p1 := at_cell k0 1;have p2 := at_cell k0 2;have HV : Hid (bookOk nm sz rs ep = endsBy rs sz) := by rw [Hid,bookOk,H1.out,H2.out,H3.out,h4];rfl
  obtain ⟨o',cap',e',hm,hc,-⟩ := r0;cases e';rcases Nat.eq_zero_or_pos rs.length with h0 | hpos
  · have HE : Hid (endsBy rs sz = true) := by rw [Hid,List.length_eq_zero_iff.1 h0];rfl
    rw [h0] at p2 ⊢;clear h4 k0 hc h0
    go_wp2_with fail
    go_quiet (fail)
    go_wp2_with fail
    go_ret;exact ⟨ret_bool (by rw [HV.out,HE.out]),⟨d0.os,d0.tape,d0.output,d0.size,d0.block⟩⟩
  · obtain ⟨k,hk⟩ : ∃ k,rs.length = k + 1 := ⟨rs.length - 1,by omega⟩
    have hlt : k < rs.length := by omega
    obtain ⟨g,off,rfl,hg,a0,a1,-⟩ := three_cells hc k hlt;have HE : Hid _ := endsBy_at rs sz k hk;have hin := map_in rs h4 k hlt;generalize rs[k] = x at a0 a1 HE hin;obtain ⟨f,c,p⟩ := x;simp only at a0 a1 HE hin;have hw1 : IntKind.i64.wrap ((k : Int) + 1 - 1) = k := by unfold maxLen at hm;rw [IntKind.wrap_i64];omega
    have hw2 : (k : Int) + 1 - 1 = k := by omega
    have hw4 : IntKind.i64.wrap (k : Int) = k := by unfold maxLen at hm;rw [IntKind.wrap_i64];omega
    have hw3 : IntKind.i64.wrap (f + c) = f + c := by rw [IntKind.wrap_i64];omega
    have hi0 : (0 : Int) <= (k : Int) := by omega
    have hi1 : (k : Int) < (k : Int) + 1 := by omega
    have hz : ((k : Int) + 1 == 0) = false := by rw [beq_eq_false_iff_ne];omega
    rw [hk] at p2;clear h4 k0 hc hpos hin;rw [hk];clear hk
    go_wp2_with fail
    go_quiet (fail)
    go_wp2_with fail
    go_ret;exact ⟨ret_bool (by rw [HV.out,HE.out]),⟨d0.os,d0.tape,d0.output,d0.size,d0.block⟩⟩
structure Bk where
  nm : ByteArray
  sz : Int
  m : Value
  rs : List (Int × Int × Int)
  fx : Bool
  ep : Int
def bookC (b : Bk) : List Value := [.string b.nm,.int .i64 b.sz,b.m,.bool b.fx,.int .i64 b.ep]
theorem bookC_len (b : Bk) : (bookC b).length = 5 := rfl
structure ReadsB (B : Nat) (w : World) (v : Value) (bs : List Bk) : Prop where
  row : ReadsR 5 bookC B w v bs
  maps : ∀ b ∈ bs,ReadsR 3 runC B w b.m b.rs
theorem ReadsB.below {B : Nat} {w w' : World} {v : Value} {bs : List Bk} (h : ReadsB B w v bs) (k : Below B w w') : ReadsB B w' v bs := ⟨h.row.below k,fun b hb => (h.maps b hb).below k⟩
theorem ReadsB.mono {B B' : Nat} {w : World} {v : Value} {bs : List Bk} (h : ReadsB B w v bs) (k : B <= B') : ReadsB B' w v bs := ⟨h.row.mono k,fun b hb => (h.maps b hb).mono k⟩
def alike (nm : ByteArray) (sz : Int) (rs : List (Int × Int × Int)) (ep : Int) (nm' : ByteArray) (sz' : Int) (rs' : List (Int × Int × Int)) (ep' : Int) : Bool :=
  bookOk nm sz rs ep && bookOk nm' sz' rs' ep' && decide (sz = sz') && decide (rs = rs')
def findFrom (n : ByteArray) : List ByteArray -> Nat -> Int
  | [],_ => -1
  | x :: t,k => if x = n then (k : Int) else findFrom n t (k + 1)
def findB (bs : List Bk) (n : ByteArray) : Int := findFrom n (bs.map Bk.nm) 0
theorem find_at (bs : List Bk) (n : ByteArray) (k : Nat) (hk : k < bs.length) : findFrom n ((bs.map Bk.nm).drop k) k = if bs[k].nm = n then (k : Int) else findFrom n ((bs.map Bk.nm).drop (k + 1)) (k + 1) := by
  rw [List.drop_eq_getElem_cons (by simpa using hk),findFrom];simp
theorem find_end (bs : List Bk) (n : ByteArray) (k : Nat) (hk : ¬ k < bs.length) : findFrom n ((bs.map Bk.nm).drop k) k = -1 := by
  rw [List.drop_of_length_le (by simp;omega),findFrom]
theorem find_range (n : ByteArray) (l : List ByteArray) (k : Nat) : findFrom n l k = -1 \/ ((k : Int) <= findFrom n l k /\ findFrom n l k < k + l.length /\ l[(findFrom n l k).toNat - k]? = some n) := by
  induction l generalizing k with
  | nil => exact .inl rfl
  | cons x t ih =>
    rw [findFrom]
    split
    · rename_i h
      right
      subst h;simp
      omega
    · rcases ih (k + 1) with h | ⟨h1,h2,h3⟩
      · exact .inl h
      · right
        refine ⟨by omega,by simp;omega,?_⟩;rw [show (findFrom n t (k + 1)).toNat - k = (findFrom n t (k + 1)).toNat - (k + 1) + 1 by omega,List.getElem?_cons_succ];exact h3
theorem find_first (n : ByteArray) (l : List ByteArray) (k j : Nat) (h : l[j]? = some n) : (k : Int) <= findFrom n l k /\ findFrom n l k <= k + j := by
  induction l generalizing k j with
  | nil => simp at h
  | cons x t ih =>
    rw [findFrom]
    split
    · omega
    · rename_i hx
      match j,h with
      | 0,h => simp at h;exact absurd h hx
      | j + 1,h =>
        have := ih (k + 1) j (by simpa using h)
        omega
end Go.Proofs.YtcefcglonooelaaGreatDoor
namespace Go.Proofs.YtcefcglonooelaaGreatDoor
open Nums
set_option linter.unusedVariables false
set_option maxRecDepth 100000
structure Oq where
  k : Int
  nm : ByteArray
  ot : ByteArray
  at_ : Int
  va : Int
  ep : Int
def Oq.zero : Oq := ⟨0,ByteArray.empty,ByteArray.empty,0,0,0⟩
def kOther (k : Int) : Bool := decide (k = 4) || decide (k = 5)
def kAt (k : Int) : Bool := decide (k = 2) || decide (k = 3) || decide (k = 9)
def kSize (k : Int) : Bool := decide (k = 1) || decide (k = 7)
def kEpoch (k : Int) : Bool := decide (k = 2) || decide (k = 3) || decide (k = 6) || decide (k = 7)
def inB (x lo hi : Int) : Bool := decide (lo <= x) && decide (x <= hi)
def valOk (k va : Int) : Bool := if kSize k = true then inB va 1 16 else if k = 2 then inB va 0 999 else decide (va = 0)
def opOk (o : Oq) : Bool :=
  nameB o.nm.data.toList && inB o.k 1 9 && (kOther o.k == decide (o.ot.size ≠ 0)) && (!kOther o.k || nameB o.ot.data.toList) && (kAt o.k || decide (o.at_ = 0)) && inB o.at_ 0 255 && (kEpoch o.k || decide (o.ep = 0)) && inB o.ep 0 1000 && valOk o.k o.va
theorem inB_iff (x lo hi : Int) : inB x lo hi = true ↔ lo <= x /\ x <= hi := by simp [inB]
theorem nameB_size (s : ByteArray) (h : nameB s.data.toList = true) : 1 <= s.size /\ s.size <= 4 := by
  simp only [nameB,Bool.and_eq_true,decide_eq_true_eq] at h;have e : s.data.toList.length = s.size := by simp
  omega
theorem opOk_bd (o : Oq) (h : opOk o = true) : (1 <= o.k /\ o.k <= 9) /\ (1 <= o.nm.size /\ o.nm.size <= 4) /\ o.ot.size <= 4 /\ (0 <= o.at_ /\ o.at_ <= 255) /\ (0 <= o.va /\ o.va <= 999) /\ (0 <= o.ep /\ o.ep <= 1000) := by
  simp only [opOk,Bool.and_eq_true,inB_iff] at h;obtain ⟨⟨⟨⟨⟨⟨⟨⟨h1,h2⟩,h3⟩,h4⟩,h5⟩,h6⟩,h7⟩,h8⟩,h9⟩ := h;refine ⟨h2,nameB_size _ h1,?_,h6,?_,h8⟩
  · cases hk : kOther o.k
    · rw [hk] at h3
      simp at h3;have : o.ot.size = 0 := by rw [h3];rfl
      omega
    · rw [hk] at h4
      simp at h4;exact (nameB_size _ h4).2
  · unfold valOk at h9
    split at h9
    · rw [inB_iff] at h9;omega
    · split at h9
      · rw [inB_iff] at h9;omega
      · simp at h9;omega
theorem ext_list {a b : ByteArray} (h : a.data.toList = b.data.toList) : a = b := by
  cases a;cases b;simp at h;rw [h]
end Go.Proofs.YtcefcglonooelaaGreatDoor
