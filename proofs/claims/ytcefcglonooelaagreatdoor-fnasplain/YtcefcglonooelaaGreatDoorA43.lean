import Derived.Deep.RegionHeld3
import Derived.Deep.DeepCutAuto
import Derived.Test.YtcefcglonooelaaGreatDoorA07
import Derived.Test.YtcefcglonooelaaGreatDoorA30
import Derived.Test.YtcefcglonooelaaGreatDoorA33
import Derived.Test.YtcefcglonooelaaGreatDoorA36
import Derived.Test.YtcefcglonooelaaGreatDoorA41
import Derived.Test.YtcefcglonooelaaGreatDoorA42
namespace Go.Proofs.YtcefcglonooelaaGreatDoor
open Go.RowKit
set_option linter.unusedVariables false
set_option maxRecDepth 100000
set_option maxHeartbeats 3200000 in
theorem changedPlain_2 (xn : ByteArray) (xz : Int) (xm : Value) (xr : List Int) (xf : Bool) (xe : Int) (nm ot : ByteArray) (A : Nat) (va ep : Int) (w : World) (hA : A < xr.length) (hl : xr.length <= 1048576) (r : ReadsR 1 intC w.heap.size w xm xr) :
    Calls Tryz.prog 81 #[.agg #[.string xn,.int .i64 xz,xm,.bool xf,.int .i64 xe],.agg #[.int .i64 2,.string nm,.string ot,.int .i64 (A : Int),.int .i64 va,.int .i64 ep]] w fun e w' => ∃ v' : Value,e = .returned (.tuple #[.agg #[.string xn,.int .i64 xz,v',.bool xf,.int .i64 xe],.int .i64 0]) /\ w'.ownsRow w.heap.size 2 1 v' (xr.set A va).length ((xr.set A va).flatMap intC) /\ Below w.heap.size w w' := by
  obtain ⟨om,cm,hmf⟩ := r.form;subst hmf;obtain ⟨W0,hW0,kP,kO,kR,d0,z0⟩ := box3 w #[.string xn,.int .i64 xz,.slice om xr.length cm,.bool xf,.int .i64 xe] #[.int .i64 2,.string nm,.string ot,.int .i64 (A : Int),.int .i64 va,.int .i64 ep] #[.string ⟨#[]⟩,.int .i64 0,.slice none 0 0,.bool false,.int .i64 0] 51 26 51;have HW0 : Hid (W0 = _) := hW0;have r0 := (r.below d0).mono d0.size;have HC : Hid _ := writtenPlain_any xn xz _ xr xf xe A va W0 hA hl (readsK_to r0)
  obtain ⟨ys,hys⟩ : ∃ ys,(xr.set A va) = ys := ⟨_,rfl⟩
  rw [hys] at HC ⊢;clear hys hW0 r
  go_enter Tryz.func81,Tryz.ntmps81
  go_upto_region 1 with fail
  rw [<- HW0.out];clear HW0;obtain ⟨p0,p1,p2,p3,p4⟩ := c5 kP;have q0 := at_cell kO 0;have q3 := at_cell kO 3;have q4 := at_cell kO 4
  go_wp2_with fail
  clear p0 p1 p2 p3 p4 q0 q3 q4;refine Calls.mono HC.out ?_;rintro e w1 ⟨v1,rfl,ow1,b1⟩;obtain ⟨o1,c1,hv1⟩ := own_slice ow1;subst hv1;have kR1 := (b1.block _ (heap_lt kR)).trans kR;have ow2 : w1.ownsRow w.heap.size 2 1 (.slice o1 ys.length c1) ys.length (ys.flatMap intC) := owns_mono ow1 d0.size;have d1 := bw_call d0 b1;have HS : Hid _ := five_end (by omega) kR1 d1 ow2 (.string xn) (.int .i64 xz) (.slice o1 ys.length c1) (.bool xf) (.int .i64 xe);have b0 := at_cell kR1 0;have b1' := at_cell kR1 1;have b2 := at_cell kR1 2;have b3 := at_cell kR1 3;have b4 := at_cell kR1 4;have c0 := at_open kR1 0;have c1' := at_open kR1 1;have c2 := at_open kR1 2;have c3 := at_open kR1 3;have c4 := at_open kR1 4;clear kR1 d1 ow1 ow2 b1 kP kO kR d0 r0 HC
  go_wp2_with fail
  exact bodyPost_ret (v := .tuple #[.agg #[.string xn,.int .i64 xz,.slice o1 ys.length c1,.bool xf,.int .i64 xe],.int .i64 0]) (by simp [results,Tryz.results81,go_sem,at_cell HS.out.1]) rfl ⟨_,rfl,HS.out.2.1,HS.out.2.2⟩
set_option maxHeartbeats 3200000 in
theorem changedPlain_3 (xn : ByteArray) (xz : Int) (xm : Value) (xr : List Int) (xf : Bool) (xe : Int) (nm ot : ByteArray) (A : Nat) (va ep : Int) (w : World) (hA : A < xr.length) (hl : xr.length <= 1048576) (r : ReadsR 1 intC w.heap.size w xm xr) :
    Calls Tryz.prog 81 #[.agg #[.string xn,.int .i64 xz,xm,.bool xf,.int .i64 xe],.agg #[.int .i64 3,.string nm,.string ot,.int .i64 (A : Int),.int .i64 va,.int .i64 ep]] w fun e w' => ∃ v' : Value,e = .returned (.tuple #[.agg #[.string xn,.int .i64 xz,v',.bool xf,.int .i64 xe],.int .i64 0]) /\ w'.ownsRow w.heap.size 2 1 v' (xr.set A 0).length ((xr.set A 0).flatMap intC) /\ Below w.heap.size w w' := by
  obtain ⟨om,cm,hmf⟩ := r.form;subst hmf;obtain ⟨W0,hW0,kP,kO,kR,d0,z0⟩ := box3 w #[.string xn,.int .i64 xz,.slice om xr.length cm,.bool xf,.int .i64 xe] #[.int .i64 3,.string nm,.string ot,.int .i64 (A : Int),.int .i64 va,.int .i64 ep] #[.string ⟨#[]⟩,.int .i64 0,.slice none 0 0,.bool false,.int .i64 0] 51 26 51;have HW0 : Hid (W0 = _) := hW0;have r0 := (r.below d0).mono d0.size;have HC : Hid _ := writtenPlain_any xn xz _ xr xf xe A 0 W0 hA hl (readsK_to r0)
  obtain ⟨ys,hys⟩ : ∃ ys,(xr.set A 0) = ys := ⟨_,rfl⟩
  rw [hys] at HC ⊢;clear hys hW0 r
  go_enter Tryz.func81,Tryz.ntmps81
  go_upto_region 1 with fail
  rw [<- HW0.out];clear HW0;obtain ⟨p0,p1,p2,p3,p4⟩ := c5 kP;have q0 := at_cell kO 0;have q3 := at_cell kO 3;have q4 := at_cell kO 4
  go_wp2_with fail
  clear p0 p1 p2 p3 p4 q0 q3 q4;refine Calls.mono HC.out ?_;rintro e w1 ⟨v1,rfl,ow1,b1⟩;obtain ⟨o1,c1,hv1⟩ := own_slice ow1;subst hv1;have kR1 := (b1.block _ (heap_lt kR)).trans kR;have ow2 : w1.ownsRow w.heap.size 2 1 (.slice o1 ys.length c1) ys.length (ys.flatMap intC) := owns_mono ow1 d0.size;have d1 := bw_call d0 b1;have HS : Hid _ := five_end (by omega) kR1 d1 ow2 (.string xn) (.int .i64 xz) (.slice o1 ys.length c1) (.bool xf) (.int .i64 xe);have b0 := at_cell kR1 0;have b1' := at_cell kR1 1;have b2 := at_cell kR1 2;have b3 := at_cell kR1 3;have b4 := at_cell kR1 4;have c0 := at_open kR1 0;have c1' := at_open kR1 1;have c2 := at_open kR1 2;have c3 := at_open kR1 3;have c4 := at_open kR1 4;clear kR1 d1 ow1 ow2 b1 kP kO kR d0 r0 HC
  go_wp2_with fail
  exact bodyPost_ret (v := .tuple #[.agg #[.string xn,.int .i64 xz,.slice o1 ys.length c1,.bool xf,.int .i64 xe],.int .i64 0]) (by simp [results,Tryz.results81,go_sem,at_cell HS.out.1]) rfl ⟨_,rfl,HS.out.2.1,HS.out.2.2⟩
set_option maxHeartbeats 3200000 in
theorem changedPlain_7 (xn : ByteArray) (xz : Int) (xm : Value) (xr : List Int) (xf : Bool) (xe : Int) (nm ot : ByteArray) (at_ : Int) (N : Nat) (ep : Int) (w : World) (hN : N <= 16) (hl : xr.length <= 1048576) (r : ReadsR 1 intC w.heap.size w xm xr) :
    Calls Tryz.prog 81 #[.agg #[.string xn,.int .i64 xz,xm,.bool xf,.int .i64 xe],.agg #[.int .i64 7,.string nm,.string ot,.int .i64 at_,.int .i64 (N : Int),.int .i64 ep]] w fun e w' => ∃ v' : Value,e = .returned (.tuple #[.agg #[.string xn,.int .i64 (N : Int),v',.bool xf,.int .i64 xe],.int .i64 0]) /\ w'.ownsRow w.heap.size 2 1 v' N (((blkL xr).take N).flatMap intC) /\ Below w.heap.size w w' := by
  obtain ⟨om,cm,hmf⟩ := r.form;subst hmf;obtain ⟨W0,hW0,kP,kO,kR,d0,z0⟩ := box3 w #[.string xn,.int .i64 xz,.slice om xr.length cm,.bool xf,.int .i64 xe] #[.int .i64 7,.string nm,.string ot,.int .i64 at_,.int .i64 (N : Int),.int .i64 ep] #[.string ⟨#[]⟩,.int .i64 0,.slice none 0 0,.bool false,.int .i64 0] 51 26 51;have HW0 : Hid (W0 = _) := hW0;have r0 := (r.below d0).mono d0.size;have HC : Hid _ := resizedPlain_any xn xz _ xr xf xe N W0 hN hl r0
  obtain ⟨ys,hys⟩ : ∃ ys,((blkL xr).take N) = ys := ⟨_,rfl⟩
  rw [hys] at HC ⊢;clear hys hW0 r
  go_enter Tryz.func81,Tryz.ntmps81
  go_upto_region 1 with fail
  rw [<- HW0.out];clear HW0;obtain ⟨p0,p1,p2,p3,p4⟩ := c5 kP;have q0 := at_cell kO 0;have q3 := at_cell kO 3;have q4 := at_cell kO 4
  go_wp2_with fail
  clear p0 p1 p2 p3 p4 q0 q3 q4;refine Calls.mono HC.out ?_;rintro e w1 ⟨v1,rfl,ow1,b1⟩;obtain ⟨o1,c1,hv1⟩ := own_slice ow1;subst hv1;have kR1 := (b1.block _ (heap_lt kR)).trans kR;have ow2 : w1.ownsRow w.heap.size 2 1 (.slice o1 N c1) N (ys.flatMap intC) := owns_mono ow1 d0.size;have d1 := bw_call d0 b1;have HS : Hid _ := five_end (by omega) kR1 d1 ow2 (.string xn) (.int .i64 (N : Int)) (.slice o1 N c1) (.bool xf) (.int .i64 xe);have b0 := at_cell kR1 0;have b1' := at_cell kR1 1;have b2 := at_cell kR1 2;have b3 := at_cell kR1 3;have b4 := at_cell kR1 4;have c0 := at_open kR1 0;have c1' := at_open kR1 1;have c2 := at_open kR1 2;have c3 := at_open kR1 3;have c4 := at_open kR1 4;clear kR1 d1 ow1 ow2 b1 kP kO kR d0 r0 HC
  go_wp2_with fail
  exact bodyPost_ret (v := .tuple #[.agg #[.string xn,.int .i64 (N : Int),.slice o1 N c1,.bool xf,.int .i64 xe],.int .i64 0]) (by simp [results,Tryz.results81,go_sem,at_cell HS.out.1]) rfl ⟨_,rfl,HS.out.2.1,HS.out.2.2⟩
set_option maxHeartbeats 3200000 in
theorem changedPlain_8 (xn : ByteArray) (xz : Int) (xm : Value) (xr : List Int) (xf : Bool) (xe E : Int) (nm ot : ByteArray) (at_ va ep : Int) (w : World) (he : xe + 1 = E) (h0 : 0 <= xe) (h1 : xe <= 1000) (r : ReadsR 1 intC w.heap.size w xm xr) :
    Calls Tryz.prog 81 #[.agg #[.string xn,.int .i64 xz,xm,.bool xf,.int .i64 xe],.agg #[.int .i64 8,.string nm,.string ot,.int .i64 at_,.int .i64 va,.int .i64 ep]] w fun e w' => e = .returned (.tuple #[.agg #[.string xn,.int .i64 xz,xm,.bool xf,.int .i64 E],.int .i64 E]) /\ Below w.heap.size w w' := by
  obtain ⟨om,cm,hmf⟩ := r.form;subst hmf;obtain ⟨W0,hW0,kP,kO,kR,d0,z0⟩ := box3 w #[.string xn,.int .i64 xz,.slice om xr.length cm,.bool xf,.int .i64 xe] #[.int .i64 8,.string nm,.string ot,.int .i64 at_,.int .i64 va,.int .i64 ep] #[.string ⟨#[]⟩,.int .i64 0,.slice none 0 0,.bool false,.int .i64 0] 51 26 51;have HW0 : Hid (W0 = _) := hW0;have hw : IntKind.i64.wrap (xe + 1) = E := by rw [IntKind.wrap_i64];omega
  clear hW0 r he h0 h1
  go_enter Tryz.func81,Tryz.ntmps81
  go_upto_region 1 with fail
  rw [<- HW0.out];clear HW0;have p4 := at_cell kP 4;have f4 := at_open kP 4;have q0 := at_cell kO 0;have u0 : Upto w.heap.size W0 (W0.setCell ⟨w.heap.size,4,none⟩ (.int .i64 E)) := (Upto.refl _ _).setCell ⟨w.heap.size,4,none⟩ (.inl rfl) _;have kPW := set_at kP 4 (.int .i64 E);have kRW := (u0.block _ (heap_lt kR) (by omega)).trans kR;have dW := d0.trans (u0.toBelow d0.size (Nat.le_refl _));clear kP kO kR d0 u0 z0
  go_upto_region 10 with fail
  generalize W0.setCell ⟨w.heap.size,4,none⟩ (.int .i64 E) = W2 at *;clear p4 f4 q0 hw;have HS : Hid _ := five_end (W := W2) (v := .slice none 0 0) (n := 0) (xs := []) (by omega) kRW dW (World.ownsRow_nil _ _ _ _) (.string xn) (.int .i64 xz) (.slice om xr.length cm) (.bool xf) (.int .i64 E);have HS2 : Hid _ := five_end (W := W2.drew) (v := .slice none 0 0) (n := 0) (xs := []) (by omega) kRW (bw_drew dW) (World.ownsRow_nil _ _ _ _) (.string xn) (.int .i64 xz) (.slice om xr.length cm) (.bool xf) (.int .i64 E);have a0 : W2.drew.cell? ⟨w.heap.size,0,none⟩ = _ := at_cell kPW 0;have a0' : W2.cell? ⟨w.heap.size,0,none⟩ = _ := at_cell kPW 0;have a1 : W2.drew.cell? ⟨w.heap.size,1,none⟩ = _ := at_cell kPW 1;have a1' : W2.cell? ⟨w.heap.size,1,none⟩ = _ := at_cell kPW 1;have a2 : W2.drew.cell? ⟨w.heap.size,2,none⟩ = _ := at_cell kPW 2;have a2' : W2.cell? ⟨w.heap.size,2,none⟩ = _ := at_cell kPW 2;have a3 : W2.drew.cell? ⟨w.heap.size,3,none⟩ = _ := at_cell kPW 3;have a3' : W2.cell? ⟨w.heap.size,3,none⟩ = _ := at_cell kPW 3;have a4 : W2.drew.cell? ⟨w.heap.size,4,none⟩ = _ := at_cell kPW 4;have a4' : W2.cell? ⟨w.heap.size,4,none⟩ = _ := at_cell kPW 4;have b0 : W2.drew.cell? ⟨w.heap.size + 1 + 1,0,none⟩ = _ := at_cell kRW 0;have b0' : W2.cell? ⟨w.heap.size + 1 + 1,0,none⟩ = _ := at_cell kRW 0;have b1 : W2.drew.cell? ⟨w.heap.size + 1 + 1,1,none⟩ = _ := at_cell kRW 1;have b1' : W2.cell? ⟨w.heap.size + 1 + 1,1,none⟩ = _ := at_cell kRW 1;have b2 : W2.drew.cell? ⟨w.heap.size + 1 + 1,2,none⟩ = _ := at_cell kRW 2;have b2' : W2.cell? ⟨w.heap.size + 1 + 1,2,none⟩ = _ := at_cell kRW 2;have b3 : W2.drew.cell? ⟨w.heap.size + 1 + 1,3,none⟩ = _ := at_cell kRW 3;have b3' : W2.cell? ⟨w.heap.size + 1 + 1,3,none⟩ = _ := at_cell kRW 3;have b4 : W2.drew.cell? ⟨w.heap.size + 1 + 1,4,none⟩ = _ := at_cell kRW 4;have b4' : W2.cell? ⟨w.heap.size + 1 + 1,4,none⟩ = _ := at_cell kRW 4;have c0 : W2.drew.frozen? ⟨w.heap.size + 1 + 1,0,none⟩ = _ := at_open kRW 0;have c0' : W2.frozen? ⟨w.heap.size + 1 + 1,0,none⟩ = _ := at_open kRW 0;have c1 : W2.drew.frozen? ⟨w.heap.size + 1 + 1,1,none⟩ = _ := at_open kRW 1;have c1' : W2.frozen? ⟨w.heap.size + 1 + 1,1,none⟩ = _ := at_open kRW 1;have c2 : W2.drew.frozen? ⟨w.heap.size + 1 + 1,2,none⟩ = _ := at_open kRW 2;have c2' : W2.frozen? ⟨w.heap.size + 1 + 1,2,none⟩ = _ := at_open kRW 2;have c3 : W2.drew.frozen? ⟨w.heap.size + 1 + 1,3,none⟩ = _ := at_open kRW 3;have c3' : W2.frozen? ⟨w.heap.size + 1 + 1,3,none⟩ = _ := at_open kRW 3;have c4 : W2.drew.frozen? ⟨w.heap.size + 1 + 1,4,none⟩ = _ := at_open kRW 4;have c4' : W2.frozen? ⟨w.heap.size + 1 + 1,4,none⟩ = _ := at_open kRW 4;have n1 : ¬ w.heap.size = w.heap.size + 1 + 1 := by omega
  have n2 : ¬ w.heap.size + 1 + 1 = w.heap.size := by omega
  clear kPW kRW dW
  go_region_law (fail)
  all_goals
    clear a0 a1 a2 a3 a4 b0 b1 b2 b3 b4 c0 c1 c2 c3 c4 a0' a1' a2' a3' a4' b0' b1' b2' b3' b4' c0' c1' c2' c3' c4'
    go_wp2_with fail
    exact bodyPost_ret (v := .tuple #[.agg #[.string xn,.int .i64 xz,.slice om xr.length cm,.bool xf,.int .i64 E],.int .i64 E]) (by first | (simp [results,Tryz.results81,go_sem,at_cell HS.out.1];done) | (simp [results,Tryz.results81,go_sem,at_cell HS2.out.1];done)) rfl ⟨rfl,by first | exact bw_drew HS.out.2.2 | exact HS2.out.2.2 | exact HS.out.2.2⟩
set_option maxHeartbeats 3200000 in
theorem changedPlain_9 (xn : ByteArray) (xz : Int) (xm : Value) (xr : List Int) (xf : Bool) (xe : Int) (nm ot : ByteArray) (A : Nat) (va ep : Int) (w : World) (hA : A < xr.length) (r : ReadsR 1 intC w.heap.size w xm xr) :
    Calls Tryz.prog 81 #[.agg #[.string xn,.int .i64 xz,xm,.bool xf,.int .i64 xe],.agg #[.int .i64 9,.string nm,.string ot,.int .i64 (A : Int),.int .i64 va,.int .i64 ep]] w fun e w' => e = .returned (.tuple #[.agg #[.string xn,.int .i64 xz,xm,.bool xf,.int .i64 xe],.int .i64 (xr.getD A 0)]) /\ Below w.heap.size w w' := by
  obtain ⟨om,cm,hmf,hm,hc,hcap⟩ := r;obtain ⟨g,off,rfl,hg,hx⟩ := hc A xr[A] (List.getElem?_eq_getElem hA);subst hmf
  have hcell : w.cell? ⟨g,off + A,none⟩ = some (.int .i64 (xr.getD A 0)) := by
    have h := hx 0 _ rfl;have e : xr.getD A 0 = xr[A] := by simp [List.getD_eq_getElem?_getD,hA]
    rw [e]
    simpa using h
  obtain ⟨W0,hW0,kP,kO,kR,d0,z0⟩ := box3 w #[.string xn,.int .i64 xz,.slice (some ⟨g,off,none⟩) xr.length cm,.bool xf,.int .i64 xe] #[.int .i64 9,.string nm,.string ot,.int .i64 (A : Int),.int .i64 va,.int .i64 ep] #[.string ⟨#[]⟩,.int .i64 0,.slice none 0 0,.bool false,.int .i64 0] 51 26 51;have HW0 : Hid (W0 = _) := hW0;have hcell0 := (d0.cell (p := ⟨g,off + A,none⟩) hg).trans hcell;have i1 : (0 : Int) <= (A : Int) := by omega
  have i2 : (A : Int) < (xr.length : Int) := by omega
  generalize xr.getD A 0 = z at *;clear hW0 hx hc hcell hcap hm
  go_enter Tryz.func81,Tryz.ntmps81
  go_upto_region 1 with fail
  rw [<- HW0.out];clear HW0;have q0 := at_cell kO 0
  go_upto_region 12 with fail
  clear q0;have HS : Hid _ := five_end (W := W0) (v := .slice none 0 0) (n := 0) (xs := []) (by omega) kR d0 (World.ownsRow_nil _ _ _ _) (.string xn) (.int .i64 xz) (.slice (some ⟨g,off,none⟩) xr.length cm) (.bool xf) (.int .i64 xe);have HS2 : Hid _ := five_end (W := W0.drew) (v := .slice none 0 0) (n := 0) (xs := []) (by omega) kR (bw_drew d0) (World.ownsRow_nil _ _ _ _) (.string xn) (.int .i64 xz) (.slice (some ⟨g,off,none⟩) xr.length cm) (.bool xf) (.int .i64 xe);have a0 : W0.drew.cell? ⟨w.heap.size,0,none⟩ = _ := at_cell kP 0;have a0' : W0.cell? ⟨w.heap.size,0,none⟩ = _ := at_cell kP 0;have a1 : W0.drew.cell? ⟨w.heap.size,1,none⟩ = _ := at_cell kP 1;have a1' : W0.cell? ⟨w.heap.size,1,none⟩ = _ := at_cell kP 1;have a2 : W0.drew.cell? ⟨w.heap.size,2,none⟩ = _ := at_cell kP 2;have a2' : W0.cell? ⟨w.heap.size,2,none⟩ = _ := at_cell kP 2;have a3 : W0.drew.cell? ⟨w.heap.size,3,none⟩ = _ := at_cell kP 3;have a3' : W0.cell? ⟨w.heap.size,3,none⟩ = _ := at_cell kP 3;have a4 : W0.drew.cell? ⟨w.heap.size,4,none⟩ = _ := at_cell kP 4;have a4' : W0.cell? ⟨w.heap.size,4,none⟩ = _ := at_cell kP 4;have q3 : W0.drew.cell? ⟨w.heap.size + 1,3,none⟩ = _ := at_cell kO 3;have q3' : W0.cell? ⟨w.heap.size + 1,3,none⟩ = _ := at_cell kO 3;have v0 : W0.drew.cell? ⟨g,off + A,none⟩ = some (.int .i64 z) := hcell0;have v0' : W0.cell? ⟨g,off + A,none⟩ = some (.int .i64 z) := hcell0;have b0 : W0.drew.cell? ⟨w.heap.size + 1 + 1,0,none⟩ = _ := at_cell kR 0;have b0' : W0.cell? ⟨w.heap.size + 1 + 1,0,none⟩ = _ := at_cell kR 0;have b1 : W0.drew.cell? ⟨w.heap.size + 1 + 1,1,none⟩ = _ := at_cell kR 1;have b1' : W0.cell? ⟨w.heap.size + 1 + 1,1,none⟩ = _ := at_cell kR 1;have b2 : W0.drew.cell? ⟨w.heap.size + 1 + 1,2,none⟩ = _ := at_cell kR 2;have b2' : W0.cell? ⟨w.heap.size + 1 + 1,2,none⟩ = _ := at_cell kR 2;have b3 : W0.drew.cell? ⟨w.heap.size + 1 + 1,3,none⟩ = _ := at_cell kR 3;have b3' : W0.cell? ⟨w.heap.size + 1 + 1,3,none⟩ = _ := at_cell kR 3;have b4 : W0.drew.cell? ⟨w.heap.size + 1 + 1,4,none⟩ = _ := at_cell kR 4;have b4' : W0.cell? ⟨w.heap.size + 1 + 1,4,none⟩ = _ := at_cell kR 4;have c0 : W0.drew.frozen? ⟨w.heap.size + 1 + 1,0,none⟩ = _ := at_open kR 0;have c0' : W0.frozen? ⟨w.heap.size + 1 + 1,0,none⟩ = _ := at_open kR 0;have c1 : W0.drew.frozen? ⟨w.heap.size + 1 + 1,1,none⟩ = _ := at_open kR 1;have c1' : W0.frozen? ⟨w.heap.size + 1 + 1,1,none⟩ = _ := at_open kR 1;have c2 : W0.drew.frozen? ⟨w.heap.size + 1 + 1,2,none⟩ = _ := at_open kR 2;have c2' : W0.frozen? ⟨w.heap.size + 1 + 1,2,none⟩ = _ := at_open kR 2;have c3 : W0.drew.frozen? ⟨w.heap.size + 1 + 1,3,none⟩ = _ := at_open kR 3;have c3' : W0.frozen? ⟨w.heap.size + 1 + 1,3,none⟩ = _ := at_open kR 3;have c4 : W0.drew.frozen? ⟨w.heap.size + 1 + 1,4,none⟩ = _ := at_open kR 4;have c4' : W0.frozen? ⟨w.heap.size + 1 + 1,4,none⟩ = _ := at_open kR 4;have n1 : ¬ w.heap.size = w.heap.size + 1 + 1 := by omega
  have n2 : ¬ w.heap.size + 1 + 1 = w.heap.size := by omega
  have n3 : ¬ w.heap.size + 1 = w.heap.size + 1 + 1 := by omega
  have n4 : ¬ w.heap.size + 1 + 1 = w.heap.size + 1 := by omega
  have n5 : ¬ g = w.heap.size + 1 + 1 := by omega
  have n6 : ¬ w.heap.size + 1 + 1 = g := by omega
  have HKeep : ∀ X,Upto (w.heap.size + 1 + 1) W0 X -> (X.cell? ⟨w.heap.size,0,none⟩ = some (.string xn) /\ X.cell? ⟨w.heap.size,1,none⟩ = some (.int .i64 xz) /\ X.cell? ⟨w.heap.size,2,none⟩ = some (.slice (some ⟨g,off,none⟩) xr.length cm) /\ X.cell? ⟨w.heap.size,3,none⟩ = some (.bool xf) /\ X.cell? ⟨w.heap.size,4,none⟩ = some (.int .i64 xe) /\ X.cell? ⟨w.heap.size + 1,3,none⟩ = some (.int .i64 (A : Int)) /\ X.cell? ⟨g,off + A,none⟩ = some (.int .i64 z)) := fun X u => by
    have x1 := (u.block _ (heap_lt kP) (by omega)).trans kP;have x2 := (u.block _ (heap_lt kO) (by omega)).trans kO
    have x3 : X.cell? ⟨g,off + A,none⟩ = W0.cell? ⟨g,off + A,none⟩ := by
      have hgW : g < W0.heap.size := cell_lt hcell0;simp only [World.cell?,u.block g hgW (by omega)]
    exact ⟨at_cell x1 0,at_cell x1 1,at_cell x1 2,at_cell x1 3,at_cell x1 4,at_cell x2 3,x3.trans hcell0⟩
  have UP : Upto (w.heap.size + 1 + 1) W0 (((((W0.setCell ⟨w.heap.size + 1 + 1,0,none⟩ (.string xn)).setCell ⟨w.heap.size + 1 + 1,1,none⟩ (.int .i64 xz)).setCell ⟨w.heap.size + 1 + 1,2,none⟩ (.slice (some ⟨g,off,none⟩) xr.length cm)).setCell ⟨w.heap.size + 1 + 1,3,none⟩ (.bool xf)).setCell ⟨w.heap.size + 1 + 1,4,none⟩ (.int .i64 xe)) := ((((((Upto.refl _ _).setCell ⟨w.heap.size + 1 + 1,0,none⟩ (.inl rfl) _).setCell ⟨w.heap.size + 1 + 1,1,none⟩ (.inl rfl) _).setCell ⟨w.heap.size + 1 + 1,2,none⟩ (.inl rfl) _).setCell ⟨w.heap.size + 1 + 1,3,none⟩ (.inl rfl) _).setCell ⟨w.heap.size + 1 + 1,4,none⟩ (.inl rfl) _)
  clear kP kR kO d0 hcell0 a0 a1 a2 a3 a4 a0' a1' a2' a3' a4' q3 q3' v0 v0'
  go_region_held3 (fun X => X.cell? ⟨w.heap.size,0,none⟩ = some (.string xn) /\ X.cell? ⟨w.heap.size,1,none⟩ = some (.int .i64 xz) /\ X.cell? ⟨w.heap.size,2,none⟩ = some (.slice (some ⟨g,off,none⟩) xr.length cm) /\ X.cell? ⟨w.heap.size,3,none⟩ = some (.bool xf) /\ X.cell? ⟨w.heap.size,4,none⟩ = some (.int .i64 xe) /\ X.cell? ⟨w.heap.size + 1,3,none⟩ = some (.int .i64 (A : Int)) /\ X.cell? ⟨g,off + A,none⟩ = some (.int .i64 z))
    ((first | exact HKeep _ (Upto.drew UP) | exact HKeep _ UP | (refine HKeep _ ?_;repeat (first | exact Upto.refl _ _ | refine Upto.drew ?_))))
    (fail)
  all_goals
    clear b0 b1 b2 b3 b4 c0 c1 c2 c3 c4 b0' b1' b2' b3' b4' c0' c1' c2' c3' c4'
    go_wp2_with fail
    exact bodyPost_ret (v := .tuple #[.agg #[.string xn,.int .i64 xz,.slice (some ⟨g,off,none⟩) xr.length cm,.bool xf,.int .i64 xe],.int .i64 z]) (by first | (simp [results,Tryz.results81,go_sem,at_cell HS.out.1];done) | (simp [results,Tryz.results81,go_sem,at_cell HS2.out.1];done)) rfl ⟨rfl,by first | exact bw_drew HS.out.2.2 | exact HS2.out.2.2 | exact HS.out.2.2⟩
structure RZ (ops : Array Oper) (p sV : Nat) (G : Value -> World -> World) (R : Nat -> Value -> World -> Prop) (a0 : Act) (W : World) (L : Array Bool) (a : Act) (x X : World) : Prop where
  df : a.defers = a0.defers
  sz : a.tmps.size = a0.tmps.size
  old : ∀ s,ops.toList.all (fun o => o.dst != some s) = true -> a.tmps.getD s undef = a0.tmps.getD s undef
  rel : ∀ j s,L.getD j false = true -> ((ops[j]?).bind (·.dst)) = some s -> R j (a.tmps.getD s undef) X
  bel : Below W.heap.size W X
  pre : L.getD p false = false -> x = X
  fin : L.getD p false = true -> x = G (a.tmps.getD sV undef) X
def RZs (ops : Array Oper) (p sV : Nat) (G : Value -> World -> World) (R : Nat -> Value -> World -> Prop) (a0 : Act) (W : World) (L : Array Bool) (a : Act) (x : World) : Prop := ∃ X,RZ ops p sV G R a0 W L a x X
theorem RZs.start (ops : Array Oper) (p sV : Nat) (G : Value -> World -> World) (R : Nat -> Value -> World -> Prop) (a0 : Act) (W : World) : RZs ops p sV G R a0 W (Array.replicate ops.size false) a0 W.drew := by
  have hn : ∀ j,(Array.replicate ops.size false).getD j false = false := fun j => by
    rw [Array.getD_eq_getD_getElem?,Array.getElem?_replicate]
    split <;> rfl
  exact ⟨W.drew,rfl,rfl,fun _ _ => rfl,(fun j s h => by rw [hn] at h;cases h),bw_drew (Below.refl _ _),fun _ => rfl,(fun h => by rw [hn] at h;cases h)⟩
theorem RZ.val {ops : Array Oper} {p sV : Nat} {G : Value -> World -> World} {R : Nat -> Value -> World -> Prop} {a0 : Act} {W : World} {L : Array Bool} {a : Act} {x X : World} (h : RZ ops p sV G R a0 W L a x X) (i s : Nat) (v : Value) (x' : World) (hp : i ≠ p) (hi : ((ops[i]?).bind (·.dst)) = some s) (hs : s < a0.tmps.size) (hd : (ops.toList.all (fun o => o.dst != some s)) = false) (hu : uniqB ops s i = true)
    (hn : L.getD p false = false) (hb : Below x.heap.size x x') (hv : R i v x') (hm : ∀ j u,R j u x -> R j u x') : RZs ops p sV G R a0 W (L.setIfInBounds i true) (a.put (some s) v) x' := by
  obtain rfl := h.pre hn;refine ⟨x',h.df,by show (a.tmps.setIfInBounds s v).size = _;rw [Array.size_setIfInBounds];exact h.sz,fun r hr => ?_,fun j r hj hr => ?_,bw_call h.bel hb,fun _ => rfl,fun hl => by rw [getD_other hp,hn] at hl;cases hl⟩
  · have hne : s ≠ r := fun e => by subst e;rw [hd] at hr;cases hr
    exact (tmps_other v hne).trans (h.old r hr)
  · show R j ((a.tmps.setIfInBounds s v).getD r undef) x'
    by_cases e : i = j
    · subst e
      rw [hi] at hr;cases hr;rw [tmps_self v (by rw [h.sz];exact hs)];exact hv
    · have hne : s ≠ r := fun e2 => by subst e2;exact e (uniq_of hu j hr).symm
      rw [tmps_other v hne];rw [getD_other e] at hj;exact hm _ _ (h.rel j r hj hr)
theorem RZ.put {ops : Array Oper} {p sV : Nat} {G : Value -> World -> World} {R : Nat -> Value -> World -> Prop} {a0 : Act} {W : World} {L : Array Bool} {a : Act} {x X : World} (h : RZ ops p sV G R a0 W L a x X) (i s : Nat) (v : Value) (hp : i ≠ p) (hi : ((ops[i]?).bind (·.dst)) = some s) (hs : s < a0.tmps.size) (hd : (ops.toList.all (fun o => o.dst != some s)) = false) (hu : uniqB ops s i = true)
    (hV : s ≠ sV) (hv : R i v X) : RZs ops p sV G R a0 W (L.setIfInBounds i true) (a.put (some s) v) x := by
  refine ⟨X,h.df,by show (a.tmps.setIfInBounds s v).size = _;rw [Array.size_setIfInBounds];exact h.sz,fun r hr => ?_,fun j r hj hr => ?_,h.bel,fun hl => h.pre (by rwa [getD_other hp] at hl),fun hl => ?_⟩
  · have hne : s ≠ r := fun e => by subst e;rw [hd] at hr;cases hr
    exact (tmps_other v hne).trans (h.old r hr)
  · show R j ((a.tmps.setIfInBounds s v).getD r undef) X
    by_cases e : i = j
    · subst e
      rw [hi] at hr;cases hr;rw [tmps_self v (by rw [h.sz];exact hs)];exact hv
    · have hne : s ≠ r := fun e2 => by subst e2;exact e (uniq_of hu j hr).symm
      rw [tmps_other v hne];rw [getD_other e] at hj;exact h.rel j r hj hr
  · rw [getD_other hp] at hl
    show x = G ((a.tmps.setIfInBounds s v).getD sV undef) X
    rw [tmps_other v hV];exact h.fin hl
theorem RZ.store {ops : Array Oper} {p sV : Nat} {G : Value -> World -> World} {R : Nat -> Value -> World -> Prop} {a0 : Act} {W : World} {L : Array Bool} {a : Act} {x X : World} (h : RZ ops p sV G R a0 W L a x X) (hp : p < L.size) (hn : L.getD p false = false) (hd : ((ops[p]?).bind (·.dst)) = none) {y : World} (hy : y = G (a.tmps.getD sV undef) x) : RZs ops p sV G R a0 W (L.setIfInBounds p true) a y := by
  obtain rfl := h.pre hn;refine ⟨x,h.df,h.sz,h.old,fun j r hj hr => ?_,h.bel,fun hl => ?_,fun _ => hy⟩
  · by_cases e : p = j
    · subst e;rw [hd] at hr;cases hr
    · rw [getD_other e] at hj
      exact h.rel j r hj hr
  · rw [getD_self hp] at hl;cases hl
theorem RZ.frame {ops : Array Oper} {p sV : Nat} {G : Value -> World -> World} {R : Nat -> Value -> World -> Prop} {a0 : Act} {W : World} {L : Array Bool} {a : Act} {x X : World} (h : RZ ops p sV G R a0 W L a x X) (S : List Nat) (hS : frameB ops S a0.tmps.size = true) : a = Act.puts a0 (fun s => a.tmps.getD s undef) S := by
  have hd : a.defers = (Act.puts a0 (fun s => a.tmps.getD s undef) S).defers := by rw [puts_defers];exact h.df
  have ht : a.tmps = (Act.puts a0 (fun s => a.tmps.getD s undef) S).tmps := by
    refine arr_ext (by rw [puts_size];exact h.sz) (fun r hr => ?_);rw [puts_at _ S a0 r (by rw [<- h.sz];exact hr)];by_cases hm : r ∈ S
    · rw [if_pos hm]
    · rw [if_neg hm]
      exact h.old r (frame_of hS r (by rw [<- h.sz];exact hr) hm)
  generalize Act.puts a0 (fun s => a.tmps.getD s undef) S = b at hd ht;cases a;cases b;simp only at hd ht;rw [hd,ht]
def plCode (l : List Pv) (o : Oq) (told : Int) : Int := if refCode (l.map Pv.pb) o = 0 then (if o.k = 2 /\ told = 9 then 9 else 0) else refCode (l.map Pv.pb) o
set_option maxHeartbeats 3200000 in
theorem refusedPlain_any (vb : Value) (bks : List Pk) (k : Int) (nm ot : ByteArray) (at_ va ep told : Int) (w : World) (ad : Nat -> Addr) (hv : Vars w ad) (hn : nm.size <= maxLen) (hot : ot.size <= maxLen) (fk : I64 k) (fa : I64 at_) (fv : I64 va) (fe : I64 ep) (hl : bks.length <= 6) (hep : ∀ b ∈ bks,b.ep <= 1000) (r : ReadsK w.heap.size w vb bks) :
    Calls Tryz.prog 37 #[vb,.agg #[.int .i64 k,.string nm,.string ot,.int .i64 at_,.int .i64 va,.int .i64 ep],.int .i64 told] w fun e w' => e = .returned (refErr ad (plCode (bks.map Pk.pv) ⟨k,nm,ot,at_,va,ep⟩ told)) /\ Below w.heap.size w w' := by
  obtain ⟨W0,hW0,kO,d0,z0⟩ := box1 w #[.int .i64 k,.string nm,.string ot,.int .i64 at_,.int .i64 va,.int .i64 ep] 26;have HW0 : Hid (W0 = _) := hW0;have r0 := (r.below d0).mono d0.size;have hv0 := hv.below d0;have hl' : (bks.map Pk.bk).length <= 6 := by rw [List.length_map];exact hl
  have hep' : ∀ b ∈ bks.map Pk.bk,b.ep <= 1000 := fun b hb => by obtain ⟨x,hx,rfl⟩ := List.mem_map.1 hb;exact hep x hx
  have hms' : ∀ b ∈ bks.map Pk.bk,∃ o k cap,b.m = .slice o k cap := fun b hb => by obtain ⟨x,hx,rfl⟩ := List.mem_map.1 hb;exact ⟨none,0,0,rfl⟩
  have hrf : ∀ (vb : Value) (w : World) (hv : Vars w ad) (r : ReadsR 5 bookC w.heap.size w vb (bks.map Pk.bk)),_ := fun vb w hv r => refusedBy_any k fk vb (bks.map Pk.bk) nm ot at_ va ep w ad hv hn hot fa fv fe hl' hep' hms' r
  obtain ⟨C,hC⟩ : ∃ C,refCode ((bks.map Pk.pv).map Pv.pb) ⟨k,nm,ot,at_,va,ep⟩ = C := ⟨_,rfl⟩
  simp only [bk_pb,hC] at hrf;have HP : Hid (plCode (bks.map Pk.pv) ⟨k,nm,ot,at_,va,ep⟩ told = if C = 0 then (if k = 2 /\ told = 9 then 9 else 0) else C) := by rw [Hid,plCode,hC]
  obtain ⟨P,hP⟩ : ∃ P,plCode (bks.map Pk.pv) ⟨k,nm,ot,at_,va,ep⟩ told = P := ⟨_,rfl⟩
  rw [hP] at HP ⊢;clear hP hC;have hwv : ∀ (w : World) (r : ReadsK w.heap.size w vb bks),_ := fun w r => withoutValues_any vb bks w hl r
  obtain ⟨ob,kb,hvb⟩ := r.row.form;subst hvb;have HRF : Hid _ := hrf;have HWV : Hid _ := hwv;have HR0 : Hid _ := r0;have HV0 : Hid _ := hv0;clear hW0 z0 r hv hrf hwv hl' hep' hms' hep r0 hv0
  go_enter Tryz.func37,Tryz.ntmps37
  go_wp2_with fail
  rw [<- HW0.out];clear HW0
  go_cut [7] (fun v wx => v = refErr ad C /\ Below W0.heap.size W0 wx)
  case first =>
    have HKeep : ∀ X,Below W0.heap.size W0 X -> (Below W0.heap.size W0 X /\ X.cell? ⟨w.heap.size,0,none⟩ = some (.int .i64 k) /\ X.cell? ⟨w.heap.size,1,none⟩ = some (.string nm) /\ X.cell? ⟨w.heap.size,2,none⟩ = some (.string ot) /\ X.cell? ⟨w.heap.size,3,none⟩ = some (.int .i64 at_) /\ X.cell? ⟨w.heap.size,4,none⟩ = some (.int .i64 va) /\ X.cell? ⟨w.heap.size,5,none⟩ = some (.int .i64 ep)) := fun X hb => by
      have x2 := (hb.block _ (heap_lt kO)).trans kO;exact ⟨hb,at_cell x2 0,at_cell x2 1,at_cell x2 2,at_cell x2 3,at_cell x2 4,at_cell x2 5⟩
    have A1 : Below W0.heap.size W0 W0.drew := bw_drew (Below.refl _ _)
    go_region_held3 (fun X => Below W0.heap.size W0 X /\ X.cell? ⟨w.heap.size,0,none⟩ = some (.int .i64 k) /\ X.cell? ⟨w.heap.size,1,none⟩ = some (.string nm) /\ X.cell? ⟨w.heap.size,2,none⟩ = some (.string ot) /\ X.cell? ⟨w.heap.size,3,none⟩ = some (.int .i64 at_) /\ X.cell? ⟨w.heap.size,4,none⟩ = some (.int .i64 va) /\ X.cell? ⟨w.heap.size,5,none⟩ = some (.int .i64 ep))
      ((refine HKeep _ ?_;repeat (first | exact Below.refl _ _ | exact A3 | exact A4 | refine bw_drew ?_)))
      ((first
        | (go_at_call 46;refine (HWV.out _ ((HR0.out.below A1).mono A1.size)).mono ?_;rintro e w5 ⟨u5,rfl,og,b5⟩;have A3 : Below W0.heap.size W0 w5 := bw_call A1 b5;skip)
        | (go_at_call 73;refine (HRF.out _ _ (HV0.out.below A3) (ReadsR.of_own bookC_len og)).mono ?_;rintro e w6 ⟨rfl,b6⟩;have A4 : Below W0.heap.size W0 w6 := bw_call A3 b6;skip)))
    all_goals
      go_wp2_with fail
      go_meet
      exact ⟨rfl,A4⟩
  case rest =>
    obtain ⟨rfl,bw⟩ := hcut;have kO1 := (bw.block _ (heap_lt kO)).trans kO;have hv1 := HV0.out.below bw;have HD : Hid (Below w.heap.size w _) := bw_call d0 bw;have q0 := at_cell kO1 0;have g0 := hv1.cell 0 (by simp [errVars]);clear HV0 HR0 HWV HRF kO kO1 hv1 bw d0;by_cases h0 : C = 0
    · subst h0
      rw [show refErr ad 0 = .nilIface from rfl];by_cases hk : k = 2
      · subst hk
        by_cases ht : told = 9
        · subst ht
          have HE : Hid (refErr ad P = .iface 106 (.agg #[.int .i64 9,.iface 228 (.pointer (some (ad 0)))])) := by rw [Hid,HP.out];rfl
          clear HP
          go_wp2_with fail
          go_ret;exact ⟨by rw [HE.out];rfl,HD.out⟩
        · have HE : Hid (refErr ad P = .nilIface) := by rw [Hid,HP.out,if_pos rfl,if_neg (fun h => ht h.2)];rfl
          clear HP
          go_wp2_with fail
          go_ret;exact ⟨by rw [HE.out];rfl,HD.out⟩
      · have HE : Hid (refErr ad P = .nilIface) := by rw [Hid,HP.out,if_pos rfl,if_neg (fun h => hk h.1)];rfl
        clear HP
        go_wp2_with fail
        go_ret;exact ⟨by rw [HE.out];rfl,HD.out⟩
    · have HE : Hid (refErr ad P = refErr ad C) := by rw [Hid,HP.out,if_neg h0]
      have HE2 : Hid (refErr ad C = .iface 106 (.agg #[.int .i64 C,.iface 228 (.pointer (some (ad (varOf C))))])) := by rw [Hid,refErr,if_neg h0]
      rw [HE2.out];clear HP h0
      go_wp2_with fail
      go_ret;exact ⟨by rw [HE.out,HE2.out];rfl,HD.out⟩
end Go.Proofs.YtcefcglonooelaaGreatDoor
