import Derived.Deep.DeepCutAuto
import Derived.Deep.RegionHeld3
import Derived.Deep.RegionLaw
import Derived.Test.YtcefcglonooelaaGreatDoorA09
import Derived.Test.YtcefcglonooelaaGreatDoorA25
import Derived.Test.YtcefcglonooelaaGreatDoorA29
import Derived.Test.YtcefcglonooelaaGreatDoorA30
import Derived.Test.YtcefcglonooelaaGreatDoorA36
import Derived.Test.YtcefcglonooelaaGreatDoorA41
import Derived.Test.YtcefcglonooelaaGreatDoorA42
import Derived.Test.YtcefcglonooelaaGreatDoorA44
import Derived.Test.YtcefcglonooelaaGreatDoorA45
namespace Go.Proofs.YtcefcglonooelaaGreatDoor
open Go.RowKit
set_option linter.unusedVariables false
set_option maxRecDepth 100000
theorem new_five9 (w : World) (x0 x1 x2 x3 x4 : Value) (t : TypeId) {w5 : World} (b : Below (w.alloc (.cells #[x0,x1,x2,x3,x4] t)).drew.heap.size (w.alloc (.cells #[x0,x1,x2,x3,x4] t)).drew w5) : ∀ (j : Nat) (u : Value),[x0,x1,x2,x3,x4][j]? = some u -> w5.cell? ((⟨w.heap.size,0,none⟩ : Addr).add j) = some u := fun j u hj => by
  have h := (b.block w.heap.size (by show w.heap.size < (w.alloc _).heap.size;simp)).trans (heap_alloc_new w _);rw [addr_add,at_cell h]
  simpa using hj
theorem insK_mem {bks : List Pk} {b x : Pk} (h : x ∈ insK bks b) : x ∈ bks \/ x = b := by
  simp only [insK,List.mem_append,List.mem_singleton] at h;rcases h with (h | h) | h
  · exact .inl (List.mem_of_mem_take h)
  · exact .inr h
  · exact .inl (List.mem_of_mem_drop h)
set_option maxHeartbeats 6400000 in
theorem withPlain_any (base : Nat) (vb : Value) (bks : List Pk) (b : Pk) (w : World) (hbase : base <= w.heap.size) (hl : bks.length <= 5) (hs : (bks.map Pk.nm).Pairwise (fun x y => ltB x y = true)) (hnew : ∀ x ∈ bks,x.nm ≠ b.nm) (own : OwnK base w vb bks) (apa : ApartK bks) (hy : w.ownsRow base 2 1 b.m b.rs.length (b.rs.flatMap intC)) (ha : ∀ x ∈ bks,∀ g,x.m.ownBlock = some g -> b.m.ownBlock ≠ some g) :
    Calls Tryz.prog 77 #[vb,.agg #[.string b.nm,.int .i64 b.sz,b.m,.bool b.fx,.int .i64 b.ep]] w fun e w' => ∃ ub : Value,e = .returned ub /\ OwnK base w' ub (insK bks b) /\ ApartK (insK bks b) /\ Below w.heap.size w w' := by
  obtain ⟨i0,hi,hz0,hz1,hz2⟩ := info_parts Tryz.infoPlain;obtain ⟨ob,kb,hvb⟩ := own_slice own.row;subst hvb;have HA : Hid (ApartK (insK bks b)) := apart_insert apa _ b ha;obtain ⟨om,cm,hym⟩ := own_slice hy;obtain ⟨W0,hW0,kY,d0,z0⟩ := box1 w #[.string b.nm,.int .i64 b.sz,.slice om b.rs.length cm,.bool b.fx,.int .i64 b.ep] 51;have HW0 : Hid (W0 = _) := hW0;have own0 := own.below d0;have hy0 := owns_below hy d0;have z0a : w.heap.size < W0.heap.size := by omega
  have HMS : Hid (∀ x ∈ bks,∃ o k cap,x.m = .slice o k cap) := fun x hx => by obtain ⟨o,c,h⟩ := own_slice (own.maps x hx);exact ⟨o,_,c,h⟩
  have HSR : Hid _ := hs;have HNW : Hid _ := hnew;have HRD : Hid (ReadsR 5 pkC W0.heap.size W0 (.slice ob bks.length kb) bks) := own0.reads.row;rw [hym];clear hW0 z0 own hy ha hs hnew apa
  go_enter Tryz.func77,Tryz.ntmps77
  go_wp2_with fail
  rw [<- HW0.out];clear HW0
  go_cut [5] (fun v wx => ∃ g cp : Nat,v = .slice (some ⟨g,0,none⟩) (bks.length + 1) cp /\ wx.ownsRow W0.heap.size 51 5 (.slice (some ⟨g,0,none⟩) (bks.length + 1) cp) (stepK bks b bks.length).length ((stepK bks b bks.length).flatMap pkC) /\ Below W0.heap.size W0 wx)
  case first =>
    have Y0 : W0.drew.cell? ⟨w.heap.size,0,none⟩ = some (.string b.nm) := at_cell kY 0;have Y1 : W0.drew.cell? ⟨w.heap.size,1,none⟩ = some (.int .i64 b.sz) := at_cell kY 1;have Y2 : W0.drew.cell? ⟨w.heap.size,2,none⟩ = some (.slice om b.rs.length cm) := at_cell kY 2;have Y3 : W0.drew.cell? ⟨w.heap.size,3,none⟩ = some (.bool b.fx) := at_cell kY 3;have Y4 : W0.drew.cell? ⟨w.heap.size,4,none⟩ = some (.int .i64 b.ep) := at_cell kY 4;have hBC : pkC b = [.string b.nm,.int .i64 b.sz,.slice om b.rs.length cm,.bool b.fx,.int .i64 b.ep] := by rw [pkC,hym]
    have HST : Hid ((stepK bks b bks.length).length = bks.length + 1 /\ (stepK bks b bks.length).flatMap pkC = bks.flatMap pkC ++ pkC b) := by
      refine ⟨stepK_len _ _ _ (Nat.le_refl _),?_⟩;rw [stepK,List.take_length,List.drop_length,List.append_nil,List.flatMap_append];simp
    have HONE : Hid (∀ u ∈ pkC b,u.oneCell' = true) := one_plain b ⟨_,_,_,hym⟩
    have HKeep : ∀ W',Below W0.heap.size W0 W' -> (Below W0.heap.size W0 W' /\ W'.cell? ⟨w.heap.size,0,none⟩ = some (.string b.nm) /\ W'.cell? ⟨w.heap.size,1,none⟩ = some (.int .i64 b.sz) /\ W'.cell? ⟨w.heap.size,2,none⟩ = some (.slice om b.rs.length cm) /\ W'.cell? ⟨w.heap.size,3,none⟩ = some (.bool b.fx) /\ W'.cell? ⟨w.heap.size,4,none⟩ = some (.int .i64 b.ep)) := fun W' hb => by
      have x2 := (hb.block _ (heap_lt kY)).trans kY;exact ⟨hb,at_cell x2 0,at_cell x2 1,at_cell x2 2,at_cell x2 3,at_cell x2 4⟩
    have RX : ∀ X : World,Below W0.heap.size W0 X -> ReadsR 5 pkC X.heap.size X (.slice ob bks.length kb) bks := fun X bX => (HRD.out.below bX).mono bX.size
    have A1 : Below W0.heap.size W0 W0.drew := bw_drew (Below.refl _ _);have A2 : Below W0.heap.size W0 (W0.alloc (.cells #[.string b.nm,.int .i64 b.sz,.slice om b.rs.length cm,.bool b.fx,.int .i64 b.ep] 51)).drew := bw_drew (bw_alloc (Below.refl _ _));clear Y0 Y1 Y2 Y3 Y4
    go_region_held3 (fun w' => Below W0.heap.size W0 w' /\ w'.cell? ⟨w.heap.size,0,none⟩ = some (.string b.nm) /\ w'.cell? ⟨w.heap.size,1,none⟩ = some (.int .i64 b.sz) /\ w'.cell? ⟨w.heap.size,2,none⟩ = some (.slice om b.rs.length cm) /\ w'.cell? ⟨w.heap.size,3,none⟩ = some (.bool b.fx) /\ w'.cell? ⟨w.heap.size,4,none⟩ = some (.int .i64 b.ep))
      ((refine HKeep _ ?_;repeat (first | exact Below.refl _ _ | exact A3 | exact A4 | refine bw_drew ?_ | refine bw_alloc ?_)))
      ((first
        | (go_at_call 126;first
            | (refine (cloneK_any _ bks _ (by omega) HMS.out (RX _ A1)).mono ?_;rintro e w5 ⟨u5,rfl,og,b5⟩;have A3 : Below W0.heap.size W0 w5 := bw_call A1 b5;have og5 := owns_mono (base' := W0.heap.size) og A1.size;obtain ⟨o5,c5,hu5⟩ := own_slice og;subst hu5;clear og;skip)
            | (refine (cloneK_any _ bks _ (by omega) HMS.out (RX _ A2)).mono ?_;rintro e w5 ⟨u5,rfl,og,b5⟩;have A3 : Below W0.heap.size W0 w5 := bw_call A2 b5;have og5 := owns_mono (base' := W0.heap.size) og A2.size;obtain ⟨o5,c5,hu5⟩ := own_slice og;subst hu5;clear og;skip))
        | (refine step_append rfl (.tmp 7) (.tmp 9) 24 rfl W0.heap.size 51 i0 (.agg #[.string ByteArray.empty,.int .i64 0,.slice none 0 0,.bool false,.int .i64 0]) 5 64 Tryz.underlying24 hi hz0 hz1 hz2 rfl (by decide) (.slice o5 bks.length c5) bks.length (bks.flatMap pkC) ?e1 ?own ⟨w5.heap.size,0,none⟩ 1 1 (pkC b) ?e2 rfl ?hn HONE.out (by unfold maxLen;omega) (by omega) ?hbase ?_
           case e1 => first | rfl | simp [Act.eval]
           case e2 => first | rfl | simp [Act.eval]
           case own => exact og5.alloc _
           case hn => rw [hBC];exact new_fiveK w5 _ _ _ _ _ 51
           case hbase => (have := A3.size;simp at this ⊢;omega)
           intro v7 w7 own7 grow7 nil7;have A4 : Below W0.heap.size W0 w7 := (bw_alloc A3).grown grow7 (by have := A3.size;simp at this ⊢;omega) (fun q hq => (og5.lt q hq).1)
           skip)
        | (refine step_append rfl (.tmp 7) (.tmp 9) 24 rfl W0.heap.size 51 i0 (.agg #[.string ByteArray.empty,.int .i64 0,.slice none 0 0,.bool false,.int .i64 0]) 5 64 Tryz.underlying24 hi hz0 hz1 hz2 rfl (by decide) (.slice o5 bks.length c5) bks.length (bks.flatMap pkC) ?e1 ?own ⟨W0.heap.size,0,none⟩ 1 1 (pkC b) ?e2 rfl ?hn HONE.out (by unfold maxLen;omega) (by omega) ?hbase ?_
           case e1 => first | rfl | simp [Act.eval]
           case e2 => first | rfl | simp [Act.eval]
           case own => exact og5
           case hn => rw [hBC];exact new_five9 W0 _ _ _ _ _ 51 b5
           case hbase => exact A3.size
           intro v7 w7 own7 grow7 nil7;have A4 : Below W0.heap.size W0 w7 := A3.grown grow7 A3.size (fun q hq => (og5.lt q hq).1)
           skip)))
    all_goals
      have own8 : w7.ownsRow W0.heap.size 51 5 v7 (stepK bks b bks.length).length ((stepK bks b bks.length).flatMap pkC) := by rw [HST.out.1,HST.out.2];exact own7
      obtain ⟨g,cp,hv⟩ : ∃ g cp,v7 = .slice (some ⟨g,0,none⟩) (bks.length + 1) cp := owns_form (by rw [HST.out.1] at own8;exact own8);subst hv;clear own7 grow7 nil7 og5
      go_wp2_with fail
      go_meet
      exact ⟨g,cp,rfl,own8,A4⟩
  case rest =>
    obtain ⟨g,cp,rfl,ow,bw⟩ := hcut;have own1 := own0.below bw;have hy1 := owns_below hy0 bw;have d1 := bw_call d0 bw;have hgl := ow.lt g rfl
    obtain ⟨N,hN⟩ : ∃ N,bks.length + 1 = N := ⟨_,rfl⟩
    have hN1 : bks.length + 1 <= N := by omega
    have hN2 : N <= bks.length + 1 := by omega
    have HNN : Hid (bks.length + 1 = N) := hN;rw [hN] at ow ⊢;clear hN;have sz0 := bw.size
    have HMB : Hid (∃ o k c,b.m = .slice o k c) := ⟨_,_,_,hym⟩
    clear bw own0 hy0 kY
    go_wp2_with fail
    refine (sortPlains_any W0.heap.size g cp N bks b _ hN1 hN2 (by omega) HMS.out HMB.out HSR.out HNW.out ow).mono ?_;rintro e w2 ⟨rfl,ow2,u2⟩;have d2 := d1.trans (u2.toBelow d1.size (by have := d0.size;omega));have st : ∀ (e : TypeId) (kk n : Nat) (v : Value) (xs : List Value),51 ≠ e -> World.ownsRow _ base e kk v n xs -> w2.ownsRow base e kk v n xs := fun e kk n v xs he hr => own_rng_not hr (fun q hq hqv => u2.block q hq (fun hx => own_apart hr ow he g rfl (by rw [<- hx];exact hqv)))
    have HF : Hid (OwnK base w2 (.slice (some ⟨g,0,none⟩) N cp) (insK bks b)) := ⟨owns_mono ow2 (by have := d0.size;omega),fun x hx => by
      rcases insK_mem hx with h | h
      · exact st _ _ _ _ _ (by decide) (own1.maps x h)
      · rw [h];exact st _ _ _ _ _ (by decide) hy1⟩
    have HD : Hid (Below w.heap.size w w2) := d2;clear ow ow2 u2 d1 d2 own1 hy1 st
    go_wp2_with fail
    go_ret;exact ⟨_,rfl,HF.out,HA.out,HD.out⟩
end Go.Proofs.YtcefcglonooelaaGreatDoor
namespace Go.Proofs.YtcefcglonooelaaGreatDoor
open Go.RowKit
set_option linter.unusedVariables false
theorem Tryz.infoPl5 : (Tryz.prog.info? 51).map (·.size) = some 5 := by kernel_rfl
set_option maxRecDepth 100000 in
set_option maxHeartbeats 3200000 in
theorem madePlain_any (k : Int) (nm ot : ByteArray) (at_ : Int) (N : Nat) (ep : Int) (w : World) (hn : nm.size <= 1099511627776) (hN : N <= 1048576) :
    Calls Tryz.prog 78 #[.agg #[.int .i64 k,.string nm,.string ot,.int .i64 at_,.int .i64 (N : Int),.int .i64 ep]] w fun e w' => ∃ v' : Value,e = .returned (.agg #[.string nm,.int .i64 (N : Int),v',.bool false,.int .i64 0]) /\ w'.ownsRow w.heap.size 2 1 v' N ((List.replicate N (0 : Int)).map (Value.int .i64)) /\ Below w.heap.size w w' := by
  obtain ⟨M,-,hmk,hown⟩ := made_ints N hN;have HMK : Hid _ := hmk;have HOWN : Hid _ := hown;clear hmk hown;obtain ⟨W0,hW0,kO,kR,d0,z0⟩ := box2 w #[.int .i64 k,.string nm,.string ot,.int .i64 at_,.int .i64 (N : Int),.int .i64 ep] #[.string ⟨#[]⟩,.int .i64 0,.slice none 0 0,.bool false,.int .i64 0] 26 51;have HW0 : Hid (W0 = _) := hW0;have z0a : w.heap.size + 1 < W0.heap.size := by omega
  clear hW0 z0
  go_enter Tryz.func78,Tryz.ntmps78
  go_upto_region 1 with fail
  rw [<- HW0.out];clear HW0
  obtain ⟨R,hR0⟩ : ∃ R : Nat -> Value -> World -> Prop,R = fun j v X => match j with
    | 0 => v = .pointer (some ⟨w.heap.size,1,none⟩)
    | 1 => v = .string nm
    | 2 => v = .string nm
    | 3 => v = .pointer (some ⟨w.heap.size,4,none⟩)
    | 4 => v = .int .i64 (N : Int)
    | 5 => v = .pointer (some ⟨w.heap.size,4,none⟩)
    | 6 => v = .int .i64 (N : Int)
    | 7 => ∃ g : Nat,v = .slice (some ⟨g,0,none⟩) N N /\ X.ownsRow w.heap.size 2 1 (.slice (some ⟨g,0,none⟩) N N) N ((List.replicate N (0 : Int)).map (Value.int .i64))
    | 8 => ∃ g : Nat,v = .agg #[.string nm,.int .i64 (N : Int),.slice (some ⟨g,0,none⟩) N N,.bool false,.int .i64 0] /\ X.ownsRow w.heap.size 2 1 (.slice (some ⟨g,0,none⟩) N N) N ((List.replicate N (0 : Int)).map (Value.int .i64))
    | _ => True := ⟨_,rfl⟩
  have hR : Hid _ := hR0;clear hR0
  have RMO : ∀ X X',Below X.heap.size X X' -> ∀ j v,R j v X -> R j v X' := fun X X' hb j v => by
    rw [hR.out]
    match j with
    | 0 => exact id
    | 1 => exact id
    | 2 => exact id
    | 3 => exact id
    | 4 => exact id
    | 5 => exact id
    | 6 => exact id
    | 7 => exact fun ⟨g,e,ow⟩ => ⟨g,e,owns_below ow hb⟩
    | 8 => exact fun ⟨g,e,ow⟩ => ⟨g,e,owns_below ow hb⟩
    | _ + 9 => exact id
  refine wp_region_inv (I := RXs _ 9 2 11 R _ W0) (by kernel_rfl) (RXs.start _ 9 2 11 _ _ W0) ?_ ?_
  · intro L a y i hL hD hi h
    obtain ⟨X,h⟩ := h;have hin : i < 10 := (ready_mem hi).1;have hnot := (ready_mem hi).2.1;have hc : i = 0 \/ i = 1 \/ i = 2 \/ i = 3 \/ i = 4 \/ i = 5 \/ i = 6 \/ i = 7 \/ i = 8 \/ i = 9 := by omega
    have t1 : a.tmps.getD 1 undef = .pointer (some ⟨w.heap.size,0,none⟩) := h.old 1 (by kernel_rfl);rcases hc with rfl | rfl | rfl | rfl | rfl | rfl | rfl | rfl | rfl | rfl
    · refine wpOp_of rfl rfl ?_
      unfold Oper.wp
      go_simp
      exact h.put 0 3 _ (by decide) (by kernel_rfl) (of_decide_eq_true (by kernel_rfl)) (by kernel_rfl) (by kernel_rfl) (by decide) (by decide) (by rw [hR.out];exact rfl)
    · have hn' : L.getD 9 false = false := hD.no 9 [8,2,1] hnot (by kernel_rfl) rfl
      obtain rfl := h.pre hn';have q0 := h.rel 0 3 (ready_dep hi (by kernel_rfl)) (by kernel_rfl);rw [hR.out] at q0;have q0' : a.tmps.getD 3 undef = .pointer (some ⟨w.heap.size,1,none⟩) := q0;have c1 := at_cell ((h.bel.block _ (heap_lt kO)).trans kO) 1;clear q0;refine wpOp_of rfl rfl ?_;unfold Oper.wp
      go_simp
      exact h.put 1 4 _ (by decide) (by kernel_rfl) (of_decide_eq_true (by kernel_rfl)) (by kernel_rfl) (by kernel_rfl) (by decide) (by decide) (by rw [hR.out];exact rfl)
    · have hn' : L.getD 9 false = false := hD.no 9 [8,2] hnot (by kernel_rfl) rfl
      obtain rfl := h.pre hn';have q0 := h.rel 1 4 (ready_dep hi (by kernel_rfl)) (by kernel_rfl);rw [hR.out] at q0;have q0' : a.tmps.getD 4 undef = .string nm := q0;clear q0;refine wpOp_of rfl rfl ?_;unfold Oper.wp
      go_simp
      go_at_call 96
      refine (clone_any nm _ hn).mono ?_;rintro e x1 ⟨rfl,hb⟩;exact h.val 2 5 _ x1 (by decide) (by kernel_rfl) (of_decide_eq_true (by kernel_rfl)) (by kernel_rfl) (by kernel_rfl) hn' hb (by rw [hR.out];exact rfl) (RMO _ _ hb)
    · refine wpOp_of rfl rfl ?_
      unfold Oper.wp
      go_simp
      exact h.put 3 6 _ (by decide) (by kernel_rfl) (of_decide_eq_true (by kernel_rfl)) (by kernel_rfl) (by kernel_rfl) (by decide) (by decide) (by rw [hR.out];exact rfl)
    · have hn' : L.getD 9 false = false := hD.no 9 [8,4] hnot (by kernel_rfl) rfl
      obtain rfl := h.pre hn';have q0 := h.rel 3 6 (ready_dep hi (by kernel_rfl)) (by kernel_rfl);rw [hR.out] at q0;have q0' : a.tmps.getD 6 undef = .pointer (some ⟨w.heap.size,4,none⟩) := q0;have c1 := at_cell ((h.bel.block _ (heap_lt kO)).trans kO) 4;clear q0;refine wpOp_of rfl rfl ?_;unfold Oper.wp
      go_simp
      exact h.put 4 7 _ (by decide) (by kernel_rfl) (of_decide_eq_true (by kernel_rfl)) (by kernel_rfl) (by kernel_rfl) (by decide) (by decide) (by rw [hR.out];exact rfl)
    · refine wpOp_of rfl rfl ?_
      unfold Oper.wp
      go_simp
      exact h.put 5 8 _ (by decide) (by kernel_rfl) (of_decide_eq_true (by kernel_rfl)) (by kernel_rfl) (by kernel_rfl) (by decide) (by decide) (by rw [hR.out];exact rfl)
    · have hn' : L.getD 9 false = false := hD.no 9 [8,7,6] hnot (by kernel_rfl) rfl
      obtain rfl := h.pre hn';have q0 := h.rel 5 8 (ready_dep hi (by kernel_rfl)) (by kernel_rfl);rw [hR.out] at q0;have q0' : a.tmps.getD 8 undef = .pointer (some ⟨w.heap.size,4,none⟩) := q0;have c1 := at_cell ((h.bel.block _ (heap_lt kO)).trans kO) 4;clear q0;refine wpOp_of rfl rfl ?_;unfold Oper.wp
      go_simp
      exact h.put 6 9 _ (by decide) (by kernel_rfl) (of_decide_eq_true (by kernel_rfl)) (by kernel_rfl) (by kernel_rfl) (by decide) (by decide) (by rw [hR.out];exact rfl)
    · have hn' : L.getD 9 false = false := hD.no 9 [8,7] hnot (by kernel_rfl) rfl
      obtain rfl := h.pre hn';have q0 := h.rel 6 9 (ready_dep hi (by kernel_rfl)) (by kernel_rfl);rw [hR.out] at q0;have q0' : a.tmps.getD 9 undef = .int .i64 (N : Int) := q0;have hmy := HMK.out y;have hb : Below y.heap.size y (y.alloc (.cells M 2)) := bw_alloc (Below.refl _ _);have hoy := HOWN.out y w.heap.size (by have := h.bel.size;omega);clear q0;refine wpOp_of rfl rfl ?_;unfold Oper.wp
      go_simp
      exact h.val 7 10 _ _ (by decide) (by kernel_rfl) (of_decide_eq_true (by kernel_rfl)) (by kernel_rfl) (by kernel_rfl) hn' hb (by rw [hR.out];exact ⟨_,rfl,hoy⟩) (RMO _ _ hb)
    · have hn' : L.getD 9 false = false := hD.no 9 [8] hnot (by kernel_rfl) rfl
      obtain rfl := h.pre hn';have q0 := h.rel 2 5 (ready_dep hi (by kernel_rfl)) (by kernel_rfl);rw [hR.out] at q0;have q0' : a.tmps.getD 5 undef = .string nm := q0;have q1 := h.rel 4 7 (ready_dep hi (by kernel_rfl)) (by kernel_rfl);rw [hR.out] at q1;have q1' : a.tmps.getD 7 undef = .int .i64 (N : Int) := q1;have q2 := h.rel 7 10 (ready_dep hi (by kernel_rfl)) (by kernel_rfl);rw [hR.out] at q2;obtain ⟨g,e10,ow⟩ := q2;have s5 : a.tmps[5]?.getD undef = .string nm := (Array.getD_eq_getD_getElem? ..).symm.trans q0';have s7 : a.tmps[7]?.getD undef = .int .i64 (N : Int) := (Array.getD_eq_getD_getElem? ..).symm.trans q1';have s10 : a.tmps[10]?.getD undef = .slice (some ⟨g,0,none⟩) N N := (Array.getD_eq_getD_getElem? ..).symm.trans e10;clear q0 q1;refine wpOp_of rfl rfl ?_;unfold Oper.wp
      go_simp
      exact h.val 8 11 _ y (by decide) (by kernel_rfl) (of_decide_eq_true (by kernel_rfl)) (by kernel_rfl) (by kernel_rfl) hn' (Below.refl _ _) (by rw [hR.out];exact ⟨g,rfl,ow⟩) (fun _ _ q => q)
    · have hn' := not_done hnot
      obtain rfl := h.pre hn';have q1 := h.rel 8 11 (ready_dep hi (by kernel_rfl)) (by kernel_rfl);rw [hR.out] at q1;obtain ⟨g,eV,ow⟩ := q1;refine wpOp_of rfl rfl (op_store 51 2 11 rfl rfl (w.heap.size + 1) (h.old 2 (by kernel_rfl)) _ eV #[.string ⟨#[]⟩,.int .i64 0,.slice none 0 0,.bool false,.int .i64 0] 51 ((h.bel.block _ (heap_lt kR)).trans kR) Tryz.infoPl5 rfl (by simp [Value.oneCell']) ?_);exact h.store (by rw [hL];exact of_decide_eq_true (by kernel_rfl)) hn' (by kernel_rfl) (h.old 2 (by kernel_rfl)) eV
  · intro L a y hL hD hr h
    obtain ⟨X,h⟩ := h;have hall := all_done hL hr (by kernel_rfl);obtain ⟨n,zs,eB,eV,rfl⟩ := h.fin (hall 9 (of_decide_eq_true (by kernel_rfl)));have eB0 : a.tmps.getD 2 undef = .pointer (some ⟨w.heap.size + 1,0,none⟩) := h.old 2 (by kernel_rfl);have qV := h.rel 8 11 (hall 8 (of_decide_eq_true (by kernel_rfl))) (by kernel_rfl);rw [hR.out] at qV;obtain ⟨g,eV',ow⟩ := qV;have en : (Value.pointer (some ⟨n,0,none⟩)) = .pointer (some ⟨w.heap.size + 1,0,none⟩) := eB.symm.trans eB0;have ez : Value.agg zs = .agg #[.string nm,.int .i64 (N : Int),.slice (some ⟨g,0,none⟩) N N,.bool false,.int .i64 0] := eV.symm.trans eV';simp only [Value.pointer.injEq,Option.some.injEq,Addr.mk.injEq,and_true] at en;simp only [Value.agg.injEq] at ez;subst en ez;have kRX := (h.bel.block _ (heap_lt kR)).trans kR
    have HX : Hid ((X.setRow (w.heap.size + 1) #[.string nm,.int .i64 (N : Int),.slice (some ⟨g,0,none⟩) N N,.bool false,.int .i64 0]).heap[w.heap.size + 1]? = some (.cells #[.string nm,.int .i64 (N : Int),.slice (some ⟨g,0,none⟩) N N,.bool false,.int .i64 0] 51 (0,0)) /\ (X.setRow (w.heap.size + 1) #[.string nm,.int .i64 (N : Int),.slice (some ⟨g,0,none⟩) N N,.bool false,.int .i64 0]).ownsRow w.heap.size 2 1 (.slice (some ⟨g,0,none⟩) N N) N ((List.replicate N (0 : Int)).map (Value.int .i64)) /\ Below w.heap.size w (X.setRow (w.heap.size + 1) #[.string nm,.int .i64 (N : Int),.slice (some ⟨g,0,none⟩) N N,.bool false,.int .i64 0])) := ⟨setRow_row kRX,own_box_k ow kRX (by decide) row_upto,(bw_call d0 h.bel).trans (row_upto.toBelow (bw_call d0 h.bel).size (by omega))⟩
    have hfr := h.frame [3,4,5,6,7,8,9,10,11] (by kernel_rfl)
    obtain ⟨f,hf⟩ : ∃ f : Nat -> Value,(fun s => a.tmps.getD s undef) = f := ⟨_,rfl⟩
    rw [hf] at hfr;clear hf h hall hr hD hL eB eV eB0 eV' ow kRX RMO hR R HMK HOWN kO kR d0;subst hfr;simp only [Act.puts,Act.put,List.setIfInBounds_toArray,List.set_cons_succ,List.set_cons_zero];generalize f 3 = u3;generalize f 4 = u4;generalize f 5 = u5;generalize f 6 = u6;generalize f 7 = u7;generalize f 8 = u8;generalize f 9 = u9;generalize f 10 = u10;generalize f 11 = u11;clear f
    show Exit.then _ _ _ _ _
    go_wp2_with fail
    exact bodyPost_ret (v := .agg #[.string nm,.int .i64 (N : Int),.slice (some ⟨g,0,none⟩) N N,.bool false,.int .i64 0]) (by simp [results,Tryz.results78,go_sem,at_cell HX.out.1]) rfl ⟨_,rfl,HX.out.2.1,HX.out.2.2⟩
set_option maxRecDepth 100000 in
set_option maxHeartbeats 6400000 in
theorem changedPlains_1 (base g cp N : Nat) (ms : List Pk) (nm ot : ByteArray) (at_ ep : Int) (w : World) (hbase : base <= w.heap.size) (hl5 : ms.length <= 5) (hN : N <= 1048576) (hn : nm.size <= 1099511627776) (hs : (ms.map Pk.nm).Pairwise (fun x y => ltB x y = true)) (hnew : ∀ x ∈ ms,x.nm ≠ nm) (own : OwnK base w (.slice (some ⟨g,0,none⟩) ms.length cp) ms) (ap : ApartK ms) :
    Calls Tryz.prog 40 #[.slice (some ⟨g,0,none⟩) ms.length cp,.agg #[.int .i64 1,.string nm,.string ot,.int .i64 at_,.int .i64 (N : Int),.int .i64 ep]] w fun e w' => ∃ (v' : Value) (ms' : List Pk),e = .returned (.tuple #[v',.int .i64 0]) /\ ms'.map Pk.pv = putV (ms.map Pk.pv) ⟨nm,(N : Int),List.replicate N 0,false,0⟩ /\ OwnK base w' v' ms' /\ ApartK ms' /\ Below base w w' := by
  have hl : ms.length <= 6 := by omega
  obtain ⟨va,hva⟩ : ∃ va : Int,(N : Int) = va := ⟨_,rfl⟩
  have HVA : Hid ((N : Int) = va) := hva
  obtain ⟨F,hfp⟩ : ∃ F : Int,findP ((ms.map Pk.pv).map Pv.pb) nm = F := ⟨_,rfl⟩
  rw [hva]
  have HMP : Hid (∀ X : World,Calls Tryz.prog 78 #[.agg #[.int .i64 1,.string nm,.string ot,.int .i64 at_,.int .i64 va,.int .i64 ep]] X fun e w' => ∃ v' : Value,e = .returned (.agg #[.string nm,.int .i64 va,v',.bool false,.int .i64 0]) /\ w'.ownsRow X.heap.size 2 1 v' N ((List.replicate N (0 : Int)).map (Value.int .i64)) /\ Below X.heap.size X w') := fun X => by
    have h := madePlain_any 1 nm ot at_ N ep X hn hN;rw [hva] at h;exact h
  have HSR : Hid _ := hs;have HNW : Hid _ := hnew;have HAP : Hid _ := ap;clear hva hs hnew ap;have hms' : ∀ b ∈ ms.map Pk.bk,∃ o k cap,b.m = .slice o k cap := fun b hb => by obtain ⟨x,hx,rfl⟩ := List.mem_map.1 hb;exact ⟨none,0,0,rfl⟩
  have HFB : Hid (∀ (v : Value) (w : World),ReadsR 5 bookC w.heap.size w v (ms.map Pk.bk) -> Calls Tryz.prog 76 #[v,.string nm] w fun e w' => e = .returned (.int .i64 F) /\ Below w.heap.size w w') := fun v w r => by
    have h := implFindBook_any v (ms.map Pk.bk) nm w hms' r;rw [findB_P,bk_pb,hfp] at h;exact h
  have HWV : Hid (∀ (w : World) (r : ReadsK w.heap.size w (.slice (some ⟨g,0,none⟩) ms.length cp) ms),_) := fun w r => withoutValues_any _ ms w hl r
  obtain ⟨W0,hW0,kO,d0,z0⟩ := box1 w #[.int .i64 1,.string nm,.string ot,.int .i64 at_,.int .i64 va,.int .i64 ep] 26;have HW0 : Hid (W0 = _) := hW0;have own0 := own.below d0;have HR0 : Hid (ReadsK W0.heap.size W0 (.slice (some ⟨g,0,none⟩) ms.length cp) ms) := own0.reads;have z0a : w.heap.size < W0.heap.size := by omega
  have hb0 : base <= W0.heap.size := by omega
  clear hW0 z0 own hms' hfp
  go_enter Tryz.func40,Tryz.ntmps40
  go_wp2_with fail
  rw [<- HW0.out];clear HW0
  go_cut [6] (fun v wx => v = .int .i64 F /\ Below W0.heap.size W0 wx)
  case first =>
    have HKeep : ∀ X,Below W0.heap.size W0 X -> (Below W0.heap.size W0 X /\ X.cell? ⟨w.heap.size,1,none⟩ = some (.string nm)) := fun X hb => by
      have x2 := (hb.block _ (heap_lt kO)).trans kO;exact ⟨hb,at_cell x2 1⟩
    have A1 : Below W0.heap.size W0 W0.drew := bw_drew (Below.refl _ _)
    go_region_held3 (fun X => Below W0.heap.size W0 X /\ X.cell? ⟨w.heap.size,1,none⟩ = some (.string nm))
      ((refine HKeep _ ?_;repeat (first | exact Below.refl _ _ | exact A3 | exact A4 | refine bw_drew ?_)))
      ((first
        | (go_at_call 46;refine (HWV.out _ ((HR0.out.below A1).mono A1.size)).mono ?_;rintro e w5 ⟨u5,rfl,og,b5⟩;have A3 : Below W0.heap.size W0 w5 := bw_call A1 b5;skip)
        | (go_at_call 76;refine (HFB.out _ _ (ReadsR.of_own bookC_len og)).mono ?_;rintro e w6 ⟨rfl,b6⟩;have A4 : Below W0.heap.size W0 w6 := bw_call A3 b6;skip)))
    all_goals
      go_wp2_with fail
      go_meet
      exact ⟨rfl,A4⟩
  case rest =>
    obtain ⟨rfl,bw⟩ := hcut
    rename World => W1
    replace kO := (bw.block _ (heap_lt kO)).trans kO;have own1 := own0.below bw;have d1 := bw_call d0 bw;have hb1 : base <= W1.heap.size := Nat.le_trans hb0 bw.size;have z1a : w.heap.size < W1.heap.size := Nat.lt_of_lt_of_le z0a bw.size;clear HFB HWV HR0 own0 d0 bw hb0 z0a;have q0 := at_cell kO 0;have q1 := at_cell kO 1;have q2 := at_cell kO 2;have q3 := at_cell kO 3;have q4 := at_cell kO 4;have q5 := at_cell kO 5
    go_wp2_with fail
    clear q0 q1 q2 q3 q4 q5;refine (HMP.out _).mono ?_;rintro e w2 ⟨v2,rfl,ow2,b2⟩;have own2 := own1.below b2;have d2 := bw_call d1 b2;obtain ⟨o2,c2,hv2⟩ := own_slice ow2;subst hv2
    have ha : ∀ x ∈ ms,∀ q,x.m.ownBlock = some q -> Value.ownBlock (.slice o2 N c2) ≠ some q := fun x hx q hq hq2 => by
      have h1 := (own1.maps x hx).lt q hq;have h2 := ow2.lt q hq2
      omega
    have ow3 : w2.ownsRow base 2 1 (.slice o2 N c2) (List.replicate N (0 : Int)).length ((List.replicate N (0 : Int)).flatMap intC) := by rw [ints_flat,List.length_replicate];exact owns_mono ow2 hb1
    have HWP : Hid _ := withPlain_any base _ ms ⟨nm,va,.slice o2 N c2,List.replicate N 0,false,0⟩ w2 (Nat.le_trans hb1 b2.size) hl5 HSR.out HNW.out own2 HAP.out ow3 ha;have HD : Hid (Below w.heap.size w w2) := d2;clear ow2 ow3 own1 own2 d1 d2 b2 ha kO
    go_wp2_with fail
    refine Calls.mono HWP.out ?_;rintro e w3 ⟨u3,rfl,own3,ap3,b3⟩;have HE : Hid _ := And.intro own3 (And.intro ap3 ((bw_call HD.out b3).mono hbase));have HPV : Hid ((insK ms ⟨nm,va,.slice o2 N c2,List.replicate N 0,false,0⟩).map Pk.pv = putV (ms.map Pk.pv) ⟨nm,va,List.replicate N 0,false,0⟩) := put_pv rfl _;obtain ⟨o3,c3,hu3⟩ := own_slice own3.row;subst hu3;clear own3 ap3 b3 HD HWP
    go_wp2_with fail
    exact bodyPost_ret (v := .tuple #[.slice o3 (insK ms ⟨nm,va,.slice o2 N c2,List.replicate N 0,false,0⟩).length c3,.int .i64 0]) (by simp [results,Tryz.results40,go_sem]) rfl ⟨_,_,rfl,HPV.out,HE.out.1,HE.out.2.1,HE.out.2.2⟩
end Go.Proofs.YtcefcglonooelaaGreatDoor
namespace Go.Proofs.YtcefcglonooelaaGreatDoor
open Go.RowKit
set_option linter.unusedVariables false
set_option maxRecDepth 100000
theorem ownp_end {w w6 : World} {b0 b1 base : Nat} {nm : ByteArray} {sz : Int} {m m' : Value} {fx : Bool} {ep : Int} {z0 z1 z2 z3 z4 : Value} {n : Nat} {ys : List Value} (k0 : w6.heap[b0]? = some (.cells #[.string nm,.int .i64 sz,m,.bool fx,.int .i64 ep] 51 (0,0))) (k1 : w6.heap[b1]? = some (.cells #[z0,z1,z2,z3,z4] 51 (0,0))) (hne : b0 ≠ b1) (h0 : w.heap.size <= b0) (h1 : w.heap.size <= b1) (hl0 : b0 < base) (hl1 : b1 < base) (hb : w.heap.size <= base) (om : w6.ownsRow base 2 1 m' n ys) (d : Below w.heap.size w w6) :
    let W := (w6.setCell ⟨b0,0,none⟩ (.string nm)).setCell ⟨b0,2,none⟩ m'
    let V := ((((W.setCell ⟨b1,0,none⟩ (.string nm)).setCell ⟨b1,1,none⟩ (.int .i64 sz)).setCell ⟨b1,2,none⟩ m').setCell ⟨b1,3,none⟩ (.bool fx)).setCell ⟨b1,4,none⟩ (.int .i64 ep)
    W.heap[b0]? = some (.cells #[.string nm,.int .i64 sz,m',.bool fx,.int .i64 ep] 51 (0,0)) /\ W.heap[b1]? = some (.cells #[z0,z1,z2,z3,z4] 51 (0,0)) /\ V.heap[b1]? = some (.cells #[.string nm,.int .i64 sz,m',.bool fx,.int .i64 ep] 51 (0,0)) /\ V.ownsRow w.heap.size 2 1 m' n ys /\ Below w.heap.size w V := by
  intro W V;have uW : Upto b0 w6 W := ((Upto.refl _ _).setCell ⟨b0,0,none⟩ (.inl rfl) _).setCell ⟨b0,2,none⟩ (.inl rfl) _;have uV : Upto b1 W V := (((((Upto.refl _ _).setCell ⟨b1,0,none⟩ (.inl rfl) _).setCell ⟨b1,1,none⟩ (.inl rfl) _).setCell ⟨b1,2,none⟩ (.inl rfl) _).setCell ⟨b1,3,none⟩ (.inl rfl) _).setCell ⟨b1,4,none⟩ (.inl rfl) _;have kW : W.heap[b0]? = some (.cells #[.string nm,.int .i64 sz,m',.bool fx,.int .i64 ep] 51 (0,0)) := set_at (set_at k0 0 _) 2 _;have kW1 : W.heap[b1]? = some (.cells #[z0,z1,z2,z3,z4] 51 (0,0)) := (uW.block _ (heap_lt k1) (fun e => hne e.symm)).trans k1;have l6 := heap_lt k0;have z6 := uW.size;have d6 := d.size;exact ⟨kW,kW1,set_at (set_at (set_at (set_at (set_at kW1 0 _) 1 _) 2 _) 3 _) 4 _,owns_mono (ownsRow_upto (ownsRow_upto om uW hl0) uV hl1) hb,(d.trans (uW.toBelow d6 h0)).trans (uV.toBelow (by omega) h1)⟩
set_option maxHeartbeats 6400000 in
theorem ownPlain_any (nm : ByteArray) (sz : Int) (m : Value) (rs : List Int) (fx : Bool) (ep : Int) (w : World) (hn : nm.size <= 1099511627776) (hl : rs.length <= 1048576) (r : ReadsR 1 intC w.heap.size w m rs) :
    Calls Tryz.prog 74 #[.agg #[.string nm,.int .i64 sz,m,.bool fx,.int .i64 ep]] w fun e w' => ∃ m' : Value,e = .returned (.agg #[.string nm,.int .i64 sz,m',.bool fx,.int .i64 ep]) /\ w'.ownsRow w.heap.size 2 1 m' rs.length (rs.flatMap intC) /\ Below w.heap.size w w' := by
  obtain ⟨o,cap,rfl⟩ := r.form;obtain ⟨W0,hW0,k0,k1,d0,z0⟩ := box2 w #[.string nm,.int .i64 sz,.slice o rs.length cap,.bool fx,.int .i64 ep] #[.string ⟨#[]⟩,.int .i64 0,.slice none 0 0,.bool false,.int .i64 0] 51 51;have HW0 : Hid (W0 = _) := hW0;have r0 : ReadsR 1 intC W0.drew.heap.size W0.drew (.slice o rs.length cap) rs := ((r.below d0).mono d0.size).below ((Below.refl _ _).drew);have l0 := heap_lt k0;have l1 := heap_lt k1;have S0 : W0.drew.cell? ⟨w.heap.size,0,none⟩ = some (.string nm) := at_cell k0 0;have S2 : W0.drew.cell? ⟨w.heap.size,2,none⟩ = some (.slice o rs.length cap) := at_cell k0 2;clear hW0 r
  go_enter Tryz.func74,Tryz.ntmps74
  go_wp2_with fail
  rw [<- HW0.out];clear HW0
  go_region_law (first
      | (go_simp;go_at_call 96;refine (clone_any nm _ hn).mono ?_;rintro e w5 ⟨rfl,b5⟩;have k50 := (b5.block _ (show w.heap.size < W0.heap.size by omega)).trans k0;have k51 := (b5.block _ (show w.heap.size + 1 < W0.heap.size by omega)).trans k1;have T0 := at_cell k50 0;have T2 := at_cell k50 2;have r5 := (r0.below b5).mono b5.size;dsimp only)
      | (go_simp;go_at_call 119;refine (sameNumbers_any _ rs _ hl (readsK_to r5)).mono ?_;rintro e w6 ⟨m',rfl,om,hn6,b6⟩;rw [<- ints_flat] at om;obtain ⟨o6,c6,rfl⟩ := own_slice om;have k60 := (b6.block _ (heap_lt k50)).trans k50;have k61 := (b6.block _ (heap_lt k51)).trans k51;have U0 := at_cell k60 0;have U2 := at_cell k60 2;have f0 := at_open k60 0;have f2 := at_open k60 2;dsimp only))
  all_goals
    have l5 := b5.size;have HE : Hid _ := ownp_end (w := w) (m' := .slice o6 rs.length c6) k60 k61 (by omega) (Nat.le_refl _) (by omega) (show w.heap.size < w5.heap.size by have : W0.drew.heap.size = W0.heap.size := rfl;omega) (show w.heap.size + 1 < w5.heap.size by have : W0.drew.heap.size = W0.heap.size := rfl;omega) (by have : W0.drew.heap.size = W0.heap.size := rfl;have := d0.size;omega) om (bw_call (bw_call (bw_drew d0) b5) b6);have q0 := at_cell HE.out.1 0;have q1 := at_cell HE.out.1 1;have q2 := at_cell HE.out.1 2;have q3 := at_cell HE.out.1 3;have q4 := at_cell HE.out.1 4;have p0 := at_cell HE.out.2.1 0;have p1 := at_cell HE.out.2.1 1;have p2 := at_cell HE.out.2.1 2;have p3 := at_cell HE.out.2.1 3;have p4 := at_cell HE.out.2.1 4;have g0 := at_open HE.out.2.1 0;have g1 := at_open HE.out.2.1 1;have g2 := at_open HE.out.2.1 2;have g3 := at_open HE.out.2.1 3;have g4 := at_open HE.out.2.1 4;clear U0 U2 f0 f2 T0 T2 S0 S2 k0 k1 k50 k51 k60 k61 om b5 b6 r0 r5
    go_wp2_with fail
    exact bodyPost_ret (v := .agg #[.string nm,.int .i64 sz,.slice o6 rs.length c6,.bool fx,.int .i64 ep]) (by simp [results,Tryz.results74,go_sem,at_cell HE.out.2.2.1]) rfl ⟨_,rfl,HE.out.2.2.2.1,HE.out.2.2.2.2⟩
end Go.Proofs.YtcefcglonooelaaGreatDoor
