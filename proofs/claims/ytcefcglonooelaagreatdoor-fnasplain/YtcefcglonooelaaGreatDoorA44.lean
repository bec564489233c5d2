import Derived.Lib.AppendZerosOnto
import Derived.Deep.DeepCutAuto
import Derived.Deep.RegionHeld3
import Derived.Test.YtcefcglonooelaaGreatDoorA01
import Derived.Test.YtcefcglonooelaaGreatDoorA08
import Derived.Test.YtcefcglonooelaaGreatDoorA11
import Derived.Test.YtcefcglonooelaaGreatDoorA13
import Derived.Test.YtcefcglonooelaaGreatDoorA29
import Derived.Test.YtcefcglonooelaaGreatDoorA30
import Derived.Test.YtcefcglonooelaaGreatDoorA31
import Derived.Test.YtcefcglonooelaaGreatDoorA34
import Derived.Test.YtcefcglonooelaaGreatDoorA36
import Derived.Test.YtcefcglonooelaaGreatDoorA41
import Derived.Test.YtcefcglonooelaaGreatDoorA42
import Derived.Test.YtcefcglonooelaaGreatDoorA43
namespace Go.Proofs.YtcefcglonooelaaGreatDoor
open Go.RowKit
set_option linter.unusedVariables false
set_option maxRecDepth 100000
theorem ref_zero9 {bs : List Pb} {o : Oq} (h : refCode bs o = 0) : opOk o = true /\ refused bs o = 0 := by
  unfold refCode at h;cases hok : opOk o
  · rw [hok,if_pos rfl] at h;cases h
  · rw [hok,if_neg (by decide)] at h;exact ⟨rfl,h⟩
theorem refused_range9 (bs : List Pb) (o : Oq) : 0 <= refused bs o /\ refused bs o <= 8 := by
  unfold refused
  repeat (first | omega | (split <;> try omega))
theorem plCode_zero {l : List Pv} {o : Oq} {told : Int} (h : plCode l o told = 0) : opOk o = true /\ refused (l.map Pv.pb) o = 0 /\ ¬ (o.k = 2 /\ told = 9) := by
  unfold plCode at h;by_cases h0 : refCode (l.map Pv.pb) o = 0
  · rw [if_pos h0] at h
    obtain ⟨h1,h2⟩ := ref_zero9 h0;refine ⟨h1,h2,fun q => ?_⟩;rw [if_pos q] at h
    omega
  · rw [if_neg h0] at h
    exact absurd h h0
theorem doPlain_code {l : List Pv} {o : Oq} {told : Int} (h : plCode l o told ≠ 0) : doPlain l o told = (l,(plCode l o told,0)) := by
  unfold plCode at h ⊢;by_cases h0 : refCode (l.map Pv.pb) o = 0
  · rw [if_pos h0] at h ⊢
    obtain ⟨h1,h2⟩ := ref_zero9 h0;by_cases q : o.k = 2 /\ told = 9
    · rw [if_pos q]
      obtain ⟨q1,rfl⟩ := q;exact doPlain_full h1 h2 q1
    · rw [if_neg q] at h
      exact absurd rfl h
  · rw [if_neg h0]
    unfold refCode at h0 ⊢;by_cases hb : opOk o = false
    · rw [if_pos hb]
      exact doPlain_bad told hb
    · rw [if_neg hb] at h0 ⊢
      exact doPlain_refd told (by simpa using hb) h0
theorem doPlain_ok {l : List Pv} {o : Oq} {told : Int} (h : opOk o = true) (hr : refused (l.map Pv.pb) o = 0) (hf : ¬ (o.k = 2 /\ told = 9)) : (doPlain l o told).2.1 = 0 := by
  rw [doPlain,if_neg (by rw [h];decide),if_neg (by rw [hr];decide),if_neg hf]
  split
  · rfl
  split
  · rfl
  split
  · rfl
  · unfold doOne
    repeat (first | rfl | split)
theorem plCode_range (l : List Pv) (o : Oq) (told : Int) : 0 <= plCode l o told /\ plCode l o told <= 9 := by
  have hr := refused_range9 (l.map Pv.pb) o;unfold plCode refCode
  repeat (first | omega | (split <;> try omega))
theorem plains_sorted {ms : List Pk} (h : plainsOk (ms.map Pk.pv) = true) : (ms.map Pk.nm).Pairwise (fun x y => ltB x y = true) := by
  simp only [plainsOk,Bool.and_eq_true] at h;have e : (ms.map Pk.pv).map Pv.nm = ms.map Pk.nm := by rw [List.map_map];rfl
  have h2 := h.2;rw [e] at h2;exact (sorted_iff _).1 h2
theorem new_plains {ms : List Pk} {n : ByteArray} (h : findP ((ms.map Pk.pv).map Pv.pb) n < 0) : ∀ x ∈ ms,x.nm ≠ n := fun x hx => by
  rw [<- bk_pb] at h;exact new_names h (x.bk) (List.mem_map_of_mem hx)
theorem OwnK.whole {base g nM cap i : Nat} {w : World} {ms : List Pk} (h : OwnK base w (.slice (some ⟨g,0,none⟩) nM cap) ms) (ap : ApartK ms) (hi : i < ms.length) (y : Pk) (ho : w.ownsRow base 2 1 y.m y.rs.length (y.rs.flatMap intC)) (ha : ∀ j (hj : j < ms.length),j ≠ i -> ∀ q,y.m.ownBlock = some q -> ms[j].m.ownBlock ≠ some q) :
    OwnK base (((((w.setCell ⟨g,i * 5,none⟩ (.string y.nm)).setCell ⟨g,i * 5 + 1,none⟩ (.int .i64 y.sz)).setCell ⟨g,i * 5 + 2,none⟩ y.m).setCell ⟨g,i * 5 + 3,none⟩ (.bool y.fx)).setCell ⟨g,i * 5 + 4,none⟩ (.int .i64 y.ep)) (.slice (some ⟨g,0,none⟩) nM cap) (ms.set i y) /\ ApartK (ms.set i y) /\ Upto g w (((((w.setCell ⟨g,i * 5,none⟩ (.string y.nm)).setCell ⟨g,i * 5 + 1,none⟩ (.int .i64 y.sz)).setCell ⟨g,i * 5 + 2,none⟩ y.m).setCell ⟨g,i * 5 + 3,none⟩ (.bool y.fx)).setCell ⟨g,i * 5 + 4,none⟩ (.int .i64 y.ep)) := by
  have u : Upto g w (((((w.setCell ⟨g,i * 5,none⟩ (.string y.nm)).setCell ⟨g,i * 5 + 1,none⟩ (.int .i64 y.sz)).setCell ⟨g,i * 5 + 2,none⟩ y.m).setCell ⟨g,i * 5 + 3,none⟩ (.bool y.fx)).setCell ⟨g,i * 5 + 4,none⟩ (.int .i64 y.ep)) := (((((Upto.refl _ _).setCell ⟨g,i * 5,none⟩ (.inl rfl) _).setCell ⟨g,i * 5 + 1,none⟩ (.inl rfl) _).setCell ⟨g,i * 5 + 2,none⟩ (.inl rfl) _).setCell ⟨g,i * 5 + 3,none⟩ (.inl rfl) _).setCell ⟨g,i * 5 + 4,none⟩ (.inl rfl) _;have hs := own_plain h.row i hi y;refine ⟨⟨hs,fun m hm => ?_⟩,?_,u⟩
  · have keep : ∀ (v' : Value) (l : List Int),w.ownsRow base 2 1 v' l.length (l.flatMap intC) -> World.ownsRow _ base 2 1 v' l.length (l.flatMap intC) := fun v' l hl => own_rng_not hl (fun q hq hv => u.block q hq (fun e => rows_twoK h.row hl (by decide) g rfl (by rw [<- e];exact hv)))
    rcases List.mem_or_eq_of_mem_set hm with hm | rfl
    · exact keep _ _ (h.maps m hm)
    · exact keep _ _ ho
  · refine List.pairwise_iff_getElem.2 (fun a b hA hB hab q hq => ?_)
    have hA' : a < ms.length := by simpa using hA
    have hB' : b < ms.length := by simpa using hB
    rw [List.getElem_set] at hq ⊢
    split at hq
    · rename_i e
      subst e;rw [if_neg (by omega)];exact ha b hB' (by omega) q hq
    · rename_i e
      split
      · rename_i e2
        subst e2;intro hy;exact ha a hA' (by omega) q hy hq
      · exact apart_at9 ap a b hA' hB' (by omega) q hq
theorem blk_take (xr : List Int) (N : Nat) (hx : xr.length <= 16) (hN : N <= 16) : (blkL xr).take N = (xr ++ List.replicate 16 0).take N := by
  rw [blkL,List.take_of_length_le hx,List.take_append,List.take_append,List.take_replicate,List.take_replicate]
  congr 2
  omega
end Go.Proofs.YtcefcglonooelaaGreatDoor
namespace Go.Proofs.YtcefcglonooelaaGreatDoor
open Go.RowKit
set_option linter.unusedVariables false
set_option maxRecDepth 100000 in
set_option maxHeartbeats 6400000 in
theorem changedPlains_one (base g cp i : Nat) (ms : List Pk) (k : Int) (nm ot : ByteArray) (at_ va ep : Int) (w : World) (hbase : base <= w.heap.size) (hi : i < ms.length) (hk : k ≠ 1 /\ k ≠ 4 /\ k ≠ 5 /\ k ≠ 6) (hl : ms.length <= 6) (own : OwnK base w (.slice (some ⟨g,0,none⟩) ms.length cp) ms) (ap : ApartK ms) (hfp : findP ((ms.map Pk.pv).map Pv.pb) nm = i) (xn : ByteArray) (xz : Int) (xm : Value) (xr : List Int) (xf : Bool) (xe : Int) (hx : ms[i] = ⟨xn,xz,xm,xr,xf,xe⟩) (y : Pv) (val : Int)
    (HC : ∀ X : World,base <= X.heap.size -> X.ownsRow base 2 1 xm xr.length (xr.flatMap intC) -> Calls Tryz.prog 81 #[.agg #[.string xn,.int .i64 xz,xm,.bool xf,.int .i64 xe],.agg #[.int .i64 k,.string nm,.string ot,.int .i64 at_,.int .i64 va,.int .i64 ep]] X fun e w' => ∃ v' : Value,e = .returned (.tuple #[.agg #[.string y.nm,.int .i64 y.sz,v',.bool y.fx,.int .i64 y.ep],.int .i64 val]) /\ w'.ownsRow base 2 1 v' y.vs.length (y.vs.flatMap intC) /\ (v' = xm \/ ∀ q,v'.ownBlock = some q -> X.heap.size <= q) /\ Below X.heap.size X w') :
    Calls Tryz.prog 40 #[.slice (some ⟨g,0,none⟩) ms.length cp,.agg #[.int .i64 k,.string nm,.string ot,.int .i64 at_,.int .i64 va,.int .i64 ep]] w fun e w' => ∃ (v' : Value) (ms' : List Pk),e = .returned (.tuple #[v',.int .i64 val]) /\ ms'.map Pk.pv = (ms.map Pk.pv).set i y /\ OwnK base w' v' ms' /\ ApartK ms' /\ Below base w w' := by
  obtain ⟨hk1,hk4,hk5,hk6⟩ := hk;have HCC : Hid _ := HC;have HX : Hid (ms[i] = ⟨xn,xz,xm,xr,xf,xe⟩) := hx;have HAP : Hid _ := ap;clear HC hx ap;have hms' : ∀ b ∈ ms.map Pk.bk,∃ o k cap,b.m = .slice o k cap := fun b hb => by obtain ⟨x,hx,rfl⟩ := List.mem_map.1 hb;exact ⟨none,0,0,rfl⟩
  have HFB : Hid (∀ (v : Value) (w : World),ReadsR 5 bookC w.heap.size w v (ms.map Pk.bk) -> Calls Tryz.prog 76 #[v,.string nm] w fun e w' => e = .returned (.int .i64 (i : Int)) /\ Below w.heap.size w w') := fun v w r => by
    have h := implFindBook_any v (ms.map Pk.bk) nm w hms' r;rw [findB_P,bk_pb,hfp] at h;exact h
  have HWV : Hid (∀ (w : World) (r : ReadsK w.heap.size w (.slice (some ⟨g,0,none⟩) ms.length cp) ms),_) := fun w r => withoutValues_any _ ms w hl r
  obtain ⟨W0,hW0,kO,d0,z0⟩ := box1 w #[.int .i64 k,.string nm,.string ot,.int .i64 at_,.int .i64 va,.int .i64 ep] 26;have HW0 : Hid (W0 = _) := hW0;have own0 := own.below d0;have HR0 : Hid (ReadsK W0.heap.size W0 (.slice (some ⟨g,0,none⟩) ms.length cp) ms) := own0.reads;have z0a : w.heap.size < W0.heap.size := by omega
  have hb0 : base <= W0.heap.size := by omega
  clear hW0 z0 own hms' hfp
  go_enter Tryz.func40,Tryz.ntmps40
  go_wp2_with fail
  rw [<- HW0.out];clear HW0
  go_cut [6] (fun v wx => v = .int .i64 (i : Int) /\ Below W0.heap.size W0 wx)
  case first =>
    have HKeep : ∀ X,Below W0.heap.size W0 X -> (Below W0.heap.size W0 X /\ X.cell? ⟨w.heap.size,1,none⟩ = some (.string nm)) := fun X hb => by
      have x2 := (hb.block _ (heap_lt kO)).trans kO;exact ⟨hb,at_cell x2 1⟩
    have A1 : Below W0.heap.size W0 W0.drew := bw_drew (Below.refl _ _)
    go_region_held3 (fun X => Below W0.heap.size W0 X /\ X.cell? ⟨w.heap.size,1,none⟩ = some (.string nm))
      ((refine HKeep _ ?_;repeat (first | exact Below.refl _ _ | exact A3 | exact A4 | refine bw_drew ?_)))
      ((first
        | (go_at_call 46;refine (HWV.out _ ((HR0.out.below A1).mono A1.size)).mono ?_;rintro e w5 ⟨u5,rfl,og,b5⟩;have A3 : Below W0.heap.size W0 w5 := bw_call A1 b5;skip)
        | (go_at_call 76;refine (HFB.out _ _ (ReadsR.of_own bookC_len og)).mono ?_;rintro e w6 ⟨rfl,b6⟩;have A4 : Below W0.heap.size W0 w6 := bw_call A3 b6;skip)))
    all_goals
      go_wp2_with fail
      go_meet
      exact ⟨rfl,A4⟩
  case rest =>
    obtain ⟨rfl,bw⟩ := hcut
    rename World => W1
    replace kO := (bw.block _ (heap_lt kO)).trans kO;have own1 := own0.below bw;have d1 := bw_call d0 bw;have hb1 : base <= W1.heap.size := Nat.le_trans hb0 bw.size;have z1a : w.heap.size < W1.heap.size := Nat.lt_of_lt_of_le z0a bw.size;clear HFB HWV HR0 own0 d0 bw hb0 z0a;have q0 := at_cell kO 0;have hxm : W1.ownsRow base 2 1 xm xr.length (xr.flatMap intC) := by have h := own1.maps ms[i] (List.getElem_mem hi);rw [HX.out] at h;exact h
    obtain ⟨om,cm,hom⟩ := own_slice hxm;subst hom;obtain ⟨⟨t0,t1,t2,t3,t4⟩,f0,f1,f2,f3,f4⟩ := own_fiveK own1.row i hi;rw [HX.out] at t0 t1 t2 t3 t4;simp only at t0 t1 t2 t3 t4;have hgl := own1.row.lt g rfl;have i0 : (0 : Int) <= (i : Int) := by omega
    have i1 : (i : Int) < (ms.length : Int) := by omega
    have HF : Hid _ := And.intro f0 (And.intro f1 (And.intro f2 (And.intro f3 f4)));have HT : Hid _ := And.intro t0 (And.intro t1 (And.intro t2 (And.intro t3 t4)));clear f0 f1 f2 f3 f4 t0 t1 t2 t3 t4
    go_upto_region 10 with fail
    clear q0;clear hk1 hk4 hk5 hk6;generalize (k == 1) = kq1;generalize (k == 4) = kq4;generalize (k == 5) = kq5;generalize (k == 6) = kq6
    obtain ⟨G,hG0⟩ : ∃ G : Value -> World -> World,G = fun v X => match v with
      | .agg zs => ((((X.setCell ⟨g,i * 5,none⟩ (zs.getD 0 undef)).setCell ⟨g,i * 5 + 1,none⟩ (zs.getD 1 undef)).setCell ⟨g,i * 5 + 2,none⟩ (zs.getD 2 undef)).setCell ⟨g,i * 5 + 3,none⟩ (zs.getD 3 undef)).setCell ⟨g,i * 5 + 4,none⟩ (zs.getD 4 undef)
      | _ => X := ⟨_,rfl⟩
    have hG : Hid _ := hG0;clear hG0
    obtain ⟨R,hR0⟩ : ∃ R : Nat -> Value -> World -> Prop,R = fun j v X => match j with
      | 0 => v = .slice (some ⟨g,0,none⟩) ms.length cp
      | 1 => v = .int .i64 (i : Int)
      | 2 => v = .slice (some ⟨g,0,none⟩) ms.length cp
      | 3 => v = .int .i64 (i : Int)
      | 4 => v = .pointer (some ⟨g,i * 5,none⟩)
      | 5 => v = .agg #[.string xn,.int .i64 xz,.slice om xr.length cm,.bool xf,.int .i64 xe]
      | 6 => v = .agg #[.int .i64 k,.string nm,.string ot,.int .i64 at_,.int .i64 va,.int .i64 ep]
      | 7 => ∃ ov cv,v = .tuple #[.agg #[.string y.nm,.int .i64 y.sz,(Value.slice ov y.vs.length cv),.bool y.fx,.int .i64 y.ep],.int .i64 val] /\ X.ownsRow base 2 1 (Value.slice ov y.vs.length cv) y.vs.length (y.vs.flatMap intC) /\ ((Value.slice ov y.vs.length cv) = Value.slice om xr.length cm \/ ∀ q,Value.ownBlock (Value.slice ov y.vs.length cv) = some q -> W1.heap.size <= q)
      | 8 => ∃ ov cv,v = .tuple #[.agg #[.string y.nm,.int .i64 y.sz,(Value.slice ov y.vs.length cv),.bool y.fx,.int .i64 y.ep],.int .i64 val] /\ X.ownsRow base 2 1 (Value.slice ov y.vs.length cv) y.vs.length (y.vs.flatMap intC) /\ ((Value.slice ov y.vs.length cv) = Value.slice om xr.length cm \/ ∀ q,Value.ownBlock (Value.slice ov y.vs.length cv) = some q -> W1.heap.size <= q)
      | 9 => ∃ ov cv,v = .agg #[.string y.nm,.int .i64 y.sz,(Value.slice ov y.vs.length cv),.bool y.fx,.int .i64 y.ep] /\ X.ownsRow base 2 1 (Value.slice ov y.vs.length cv) y.vs.length (y.vs.flatMap intC) /\ ((Value.slice ov y.vs.length cv) = Value.slice om xr.length cm \/ ∀ q,Value.ownBlock (Value.slice ov y.vs.length cv) = some q -> W1.heap.size <= q)
      | 10 => v = .int .i64 val
      | 11 => v = .pointer (some ⟨g,i * 5,none⟩)
      | 12 => True
      | 13 => v = .int .i64 val
      | _ => True := ⟨_,rfl⟩
    have hR : Hid _ := hR0;clear hR0
    have RMO : ∀ X X',Below X.heap.size X X' -> ∀ j v,R j v X -> R j v X' := fun X X' hb j v => by
      rw [hR.out]
      match j with
      | 0 => exact id
      | 1 => exact id
      | 2 => exact id
      | 3 => exact id
      | 4 => exact id
      | 5 => exact id
      | 6 => exact id
      | 7 => exact fun ⟨ov,cv,e,ow,hor⟩ => ⟨ov,cv,e,owns_below ow hb,hor⟩
      | 8 => exact fun ⟨ov,cv,e,ow,hor⟩ => ⟨ov,cv,e,owns_below ow hb,hor⟩
      | 9 => exact fun ⟨ov,cv,e,ow,hor⟩ => ⟨ov,cv,e,owns_below ow hb,hor⟩
      | 10 => exact id
      | 11 => exact id
      | 12 => exact id
      | 13 => exact id
      | _ + 14 => exact id
    refine wp_region_inv (I := RZs _ 12 51 G R _ W1) (by kernel_rfl) (RZs.start _ 12 51 G _ _ W1) ?_ ?_
    · intro L a x i hL hD hi h
      obtain ⟨X,h⟩ := h;have hin : i < 14 := (ready_mem hi).1;have hnot := (ready_mem hi).2.1;have hc : i = 0 \/ i = 1 \/ i = 2 \/ i = 3 \/ i = 4 \/ i = 5 \/ i = 6 \/ i = 7 \/ i = 8 \/ i = 9 \/ i = 10 \/ i = 11 \/ i = 12 \/ i = 13 := by omega
      rcases hc with rfl | rfl | rfl | rfl | rfl | rfl | rfl | rfl | rfl | rfl | rfl | rfl | rfl | rfl
      · have r : a.tmps.getD 0 undef = .slice (some ⟨g,0,none⟩) ms.length cp := h.old 0 (by kernel_rfl)
        refine wpOp_of rfl rfl (op_move 0 rfl ?_);exact h.put 0 43 _ (by decide) (by kernel_rfl) (of_decide_eq_true (by kernel_rfl)) (by kernel_rfl) (by kernel_rfl) (by decide) (by rw [hR.out];exact r)
      · have r : a.tmps.getD 6 undef = .int .i64 (i : Int) := h.old 6 (by kernel_rfl)
        refine wpOp_of rfl rfl (op_move 6 rfl ?_);exact h.put 1 44 _ (by decide) (by kernel_rfl) (of_decide_eq_true (by kernel_rfl)) (by kernel_rfl) (by kernel_rfl) (by decide) (by rw [hR.out];exact r)
      · have r : a.tmps.getD 0 undef = .slice (some ⟨g,0,none⟩) ms.length cp := h.old 0 (by kernel_rfl)
        refine wpOp_of rfl rfl (op_move 0 rfl ?_);exact h.put 2 45 _ (by decide) (by kernel_rfl) (of_decide_eq_true (by kernel_rfl)) (by kernel_rfl) (by kernel_rfl) (by decide) (by rw [hR.out];exact r)
      · have r : a.tmps.getD 6 undef = .int .i64 (i : Int) := h.old 6 (by kernel_rfl)
        refine wpOp_of rfl rfl (op_move 6 rfl ?_);exact h.put 3 46 _ (by decide) (by kernel_rfl) (of_decide_eq_true (by kernel_rfl)) (by kernel_rfl) (by kernel_rfl) (by decide) (by rw [hR.out];exact r)
      · have r1_ := h.rel 2 45 (ready_dep hi (by kernel_rfl)) (by kernel_rfl)
        rw [hR.out] at r1_;have r1 : a.tmps.getD 45 undef = .slice (some ⟨g,0,none⟩) ms.length cp := r1_;clear r1_;have r2_ := h.rel 3 46 (ready_dep hi (by kernel_rfl)) (by kernel_rfl);rw [hR.out] at r2_;have r2 : a.tmps.getD 46 undef = .int .i64 (i : Int) := r2_;clear r2_;refine wpOp_of rfl rfl ?_;unfold Oper.wp
        go_simp
        exact h.put 4 47 _ (by decide) (by kernel_rfl) (of_decide_eq_true (by kernel_rfl)) (by kernel_rfl) (by kernel_rfl) (by decide) (by rw [hR.out];exact rfl)
      · have hn' : L.getD 12 false = false := hD.no 12 [9,8,7,5] hnot (by kernel_rfl) rfl
        obtain rfl := h.pre hn';have r1_ := h.rel 4 47 (ready_dep hi (by kernel_rfl)) (by kernel_rfl);rw [hR.out] at r1_;have r1 : a.tmps.getD 47 undef = .pointer (some ⟨g,i * 5,none⟩) := r1_;clear r1_;have t0 := (h.bel.cell (p := ⟨g,i * 5,none⟩) hgl.2).trans HT.out.1;have t1 := (h.bel.cell (p := ⟨g,i * 5 + 1,none⟩) hgl.2).trans HT.out.2.1;have t2 := (h.bel.cell (p := ⟨g,i * 5 + 2,none⟩) hgl.2).trans HT.out.2.2.1;have t3 := (h.bel.cell (p := ⟨g,i * 5 + 3,none⟩) hgl.2).trans HT.out.2.2.2.1;have t4 := (h.bel.cell (p := ⟨g,i * 5 + 4,none⟩) hgl.2).trans HT.out.2.2.2.2;refine wpOp_of rfl rfl ?_;unfold Oper.wp
        go_simp
        exact h.put 5 48 _ (by decide) (by kernel_rfl) (of_decide_eq_true (by kernel_rfl)) (by kernel_rfl) (by kernel_rfl) (by decide) (by rw [hR.out];exact rfl)
      · have hn' : L.getD 12 false = false := hD.no 12 [9,8,7,6] hnot (by kernel_rfl) rfl
        obtain rfl := h.pre hn';have kOx := (h.bel.block _ (heap_lt kO)).trans kO;refine wpOp_of rfl rfl ?_;refine op_load 26 3 rfl w.heap.size (h.old 3 (by kernel_rfl)) _ 26 (0,0) kOx _ Tryz.underlying26 rfl (by kernel_rfl) ?_;exact h.put 6 49 _ (by decide) (by kernel_rfl) (of_decide_eq_true (by kernel_rfl)) (by kernel_rfl) (by kernel_rfl) (by decide) (by rw [hR.out];exact rfl)
      · have hn' : L.getD 12 false = false := hD.no 12 [9,8,7] hnot (by kernel_rfl) rfl
        obtain rfl := h.pre hn';have r1_ := h.rel 5 48 (ready_dep hi (by kernel_rfl)) (by kernel_rfl);rw [hR.out] at r1_;have r1 : a.tmps.getD 48 undef = .agg #[.string xn,.int .i64 xz,.slice om xr.length cm,.bool xf,.int .i64 xe] := r1_;clear r1_;have r2_ := h.rel 6 49 (ready_dep hi (by kernel_rfl)) (by kernel_rfl);rw [hR.out] at r2_;have r2 : a.tmps.getD 49 undef = .agg #[.int .i64 k,.string nm,.string ot,.int .i64 at_,.int .i64 va,.int .i64 ep] := r2_;clear r2_;have hxb := owns_below hxm h.bel;have hcx := HCC.out x (Nat.le_trans hb1 h.bel.size) hxb;have hWx := h.bel.size;refine wpOp_of rfl rfl ?_;unfold Oper.wp
        go_simp
        go_at_call 81
        refine hcx.mono ?_;rintro e x2 ⟨v',rfl,ow,hor,b⟩;obtain ⟨ov,cv,rfl⟩ := own_slice ow;exact h.val 7 50 _ x2 (by decide) (by kernel_rfl) (of_decide_eq_true (by kernel_rfl)) (by kernel_rfl) (by kernel_rfl) hn' b (by rw [hR.out];exact ⟨ov,cv,rfl,ow,hor.imp id (fun q r s => Nat.le_trans hWx (q r s))⟩) (RMO _ _ b)
      · have r := h.rel 7 50 (ready_dep hi (by kernel_rfl)) (by kernel_rfl)
        rw [hR.out] at r;refine wpOp_of rfl rfl (op_move 50 rfl ?_);exact h.put 8 42 _ (by decide) (by kernel_rfl) (of_decide_eq_true (by kernel_rfl)) (by kernel_rfl) (by kernel_rfl) (by decide) (by rw [hR.out];exact r)
      · have hn' : L.getD 12 false = false := hD.no 12 [9] hnot (by kernel_rfl) rfl
        obtain rfl := h.pre hn';have r := h.rel 8 42 (ready_dep hi (by kernel_rfl)) (by kernel_rfl);rw [hR.out] at r;obtain ⟨ov,cv,ea,ow,hor⟩ := r;refine wpOp_of rfl rfl ?_;unfold Oper.wp
        go_simp
        exact h.val 9 51 _ x (by decide) (by kernel_rfl) (of_decide_eq_true (by kernel_rfl)) (by kernel_rfl) (by kernel_rfl) hn' (Below.refl _ _) (by rw [hR.out];exact ⟨ov,cv,rfl,ow,hor⟩) (RMO _ _ (Below.refl _ _))
      · have r := h.rel 8 42 (ready_dep hi (by kernel_rfl)) (by kernel_rfl)
        rw [hR.out] at r;obtain ⟨ov,cv,ea,ow,hor⟩ := r;clear ow hor;refine wpOp_of rfl rfl ?_;unfold Oper.wp
        go_simp
        exact h.put 10 52 _ (by decide) (by kernel_rfl) (of_decide_eq_true (by kernel_rfl)) (by kernel_rfl) (by kernel_rfl) (by decide) (by rw [hR.out];exact rfl)
      · have r1_ := h.rel 0 43 (ready_dep hi (by kernel_rfl)) (by kernel_rfl)
        rw [hR.out] at r1_;have r1 : a.tmps.getD 43 undef = .slice (some ⟨g,0,none⟩) ms.length cp := r1_;clear r1_;have r2_ := h.rel 1 44 (ready_dep hi (by kernel_rfl)) (by kernel_rfl);rw [hR.out] at r2_;have r2 : a.tmps.getD 44 undef = .int .i64 (i : Int) := r2_;clear r2_;refine wpOp_of rfl rfl ?_;unfold Oper.wp
        go_simp
        exact h.put 11 53 _ (by decide) (by kernel_rfl) (of_decide_eq_true (by kernel_rfl)) (by kernel_rfl) (by kernel_rfl) (by decide) (by rw [hR.out];exact rfl)
      · have hn' := not_done hnot
        obtain rfl := h.pre hn';have r := h.rel 9 51 (ready_dep hi (by kernel_rfl)) (by kernel_rfl);rw [hR.out] at r;obtain ⟨ov,cv,ea,ow,hor⟩ := r;clear ow hor;have r2_ := h.rel 11 53 (ready_dep hi (by kernel_rfl)) (by kernel_rfl);rw [hR.out] at r2_;have r2 : a.tmps.getD 53 undef = .pointer (some ⟨g,i * 5,none⟩) := r2_;clear r2_;have t0 := (h.bel.cell (p := ⟨g,i * 5,none⟩) hgl.2).trans HT.out.1;have t1 := (h.bel.cell (p := ⟨g,i * 5 + 1,none⟩) hgl.2).trans HT.out.2.1;have t2 := (h.bel.cell (p := ⟨g,i * 5 + 2,none⟩) hgl.2).trans HT.out.2.2.1;have t3 := (h.bel.cell (p := ⟨g,i * 5 + 3,none⟩) hgl.2).trans HT.out.2.2.2.1;have t4 := (h.bel.cell (p := ⟨g,i * 5 + 4,none⟩) hgl.2).trans HT.out.2.2.2.2;have f0 := (h.bel.frozen (p := ⟨g,i * 5,none⟩) hgl.2).trans HF.out.1;have f1 := (h.bel.frozen (p := ⟨g,i * 5 + 1,none⟩) hgl.2).trans HF.out.2.1;have f2 := (h.bel.frozen (p := ⟨g,i * 5 + 2,none⟩) hgl.2).trans HF.out.2.2.1;have f3 := (h.bel.frozen (p := ⟨g,i * 5 + 3,none⟩) hgl.2).trans HF.out.2.2.2.1;have f4 := (h.bel.frozen (p := ⟨g,i * 5 + 4,none⟩) hgl.2).trans HF.out.2.2.2.2;refine wpOp_of rfl rfl ?_;unfold Oper.wp
        go_simp
        refine h.store (by rw [hL];exact of_decide_eq_true (by kernel_rfl)) hn' (by kernel_rfl) ?_;rw [ea,hG.out]
        rfl
      · have r := h.rel 10 52 (ready_dep hi (by kernel_rfl)) (by kernel_rfl)
        rw [hR.out] at r;refine wpOp_of rfl rfl (op_assign 52 rfl ?_);exact h.put 13 5 _ (by decide) (by kernel_rfl) (of_decide_eq_true (by kernel_rfl)) (by kernel_rfl) (by kernel_rfl) (by decide) (by rw [hR.out];exact r)
    · intro L a x hL hD hr h
      obtain ⟨X,h⟩ := h;have hall := all_done hL hr (by kernel_rfl);have hxe := h.fin (hall 12 (of_decide_eq_true (by kernel_rfl)));have r := h.rel 9 51 (hall 9 (of_decide_eq_true (by kernel_rfl))) (by kernel_rfl);rw [hR.out] at r;obtain ⟨ov,cv,ea,ow,hor⟩ := r;have r5 := h.rel 13 5 (hall 13 (of_decide_eq_true (by kernel_rfl))) (by kernel_rfl);rw [hR.out] at r5;rw [ea,hG.out] at hxe;have hb := h.bel;have hown := own1.below hb
      have hW := hown.whole HAP.out hi ⟨y.nm,y.sz,.slice ov y.vs.length cv,y.vs,y.fx,y.ep⟩ ow (fun j hj hji q hq => by
        rcases hor with hor | hor
        · have hm : (ms[i]).m.ownBlock = some q := by rw [HX.out,<- hq];exact congrArg Value.ownBlock hor.symm
          exact apart_at9 HAP.out i j hi hj (fun e => hji e.symm) q hm
        · intro hjq
          have h1 := (own1.maps ms[j] (List.getElem_mem hj)).lt q hjq;have h2 := hor q hq
          omega)
      have hxe2 : x = ((((X.setCell ⟨g,i * 5,none⟩ (.string y.nm)).setCell ⟨g,i * 5 + 1,none⟩ (.int .i64 y.sz)).setCell ⟨g,i * 5 + 2,none⟩ (.slice ov y.vs.length cv)).setCell ⟨g,i * 5 + 3,none⟩ (.bool y.fx)).setCell ⟨g,i * 5 + 4,none⟩ (.int .i64 y.ep) := hxe;clear hxe;subst hxe2;have HE : Hid _ := And.intro hW.1 (And.intro hW.2.1 ((d1.mono hbase).trans ((hb.mono hb1).trans (hW.2.2.toBelow (Nat.le_trans hb1 hb.size) hgl.1))));clear hW;have hfr := h.frame [5,42,43,44,45,46,47,48,49,50,51,52,53] (by kernel_rfl)
      obtain ⟨f,hf⟩ : ∃ f : Nat -> Value,(fun s => a.tmps.getD s undef) = f := ⟨_,rfl⟩
      rw [hf] at hfr;have g5 : f 5 = .int .i64 val := by rw [<- hf];exact r5
      clear hf h hall hr hD hL ea r5 ow hor hown hb RMO hR R hG G HT HF kO own1 d1 HCC;subst hfr;simp only [Act.puts,g5,Act.put,List.setIfInBounds_toArray,List.set_cons_succ,List.set_cons_zero];generalize f 42 = u42;generalize f 43 = u43;generalize f 44 = u44;generalize f 45 = u45;generalize f 46 = u46;generalize f 47 = u47;generalize f 48 = u48;generalize f 49 = u49;generalize f 50 = u50;generalize f 51 = u51;generalize f 52 = u52;generalize f 53 = u53;clear g5 f
      show Exit.then _ _ _ _ _
      go_wp2_with fail
      exact bodyPost_ret (v := .tuple #[.slice (some ⟨g,0,none⟩) ms.length cp,.int .i64 val]) (by simp [results,Tryz.results40,go_sem]) rfl ⟨_,rfl,_,by rw [List.map_set];rfl,HE.out.1,HE.out.2.1,HE.out.2.2⟩
end Go.Proofs.YtcefcglonooelaaGreatDoor
