/-
  The law FnExactDid answers true at every input that the row speaks of, its arguments and the named variables read afterwards as before; the listed variables are tied to the program's text; the walk goes over the callees' contracts.
-/
import Derived.Test.YtmnhnhjefocicaaGreatDoorRows
import Derived.Test.YtmnhnhjefocicaaGreatDoorTie
import Derived.Test.YtmnhnhjefocicaaGreatDoorCards
import Derived.SevenTiedAt
import Derived.JoinedOf
import Derived.OpenVars
import Derived.WalkKit
import Derived.ProofKit
import Derived.OpenShut
import Derived.ChangeOld
import Derived.Below
import Derived.Carry
import Derived.Test.YtmnhnhjefocicaaGreatDoorM09
import Derived.Test.YtmnhnhjefocicaaGreatDoorM12
import Derived.Test.YtmnhnhjefocicaaGreatDoorM13
import Derived.Test.YtmnhnhjefocicaaGreatDoorM14
import Derived.Test.YtmnhnhjefocicaaGreatDoorM15
import Derived.Test.YtmnhnhjefocicaaGreatDoorM26
import Derived.Test.YtmnhnhjefocicaaGreatDoorM45
import Derived.Test.YtmnhnhjefocicaaGreatDoorM46
namespace Go.Proofs.YtmnhnhjefocicaaGreatDoor.fnExactDid
open Go Go.ChangeShapes Go.WideShapes Go.ChangeAt Go.RowKit
set_option linter.unusedVariables false
theorem own : ownKnob Tryz.prog.godebug = none := by kernel_rfl
theorem laidOut : laidOutB Tryz.prog = true := by kernel_rfl
theorem vars_length {H : Type} {enc : TypeId × Value -> H} {P : Program} {w : World} {sp : Nat -> Bool} : ∀ {ns : List String} {gs : List (DataW H)} {ps : List MemPlace},DataW.TrodVars enc P w sp ns gs ps -> gs.length = ns.length
  | [],[],_,_ => rfl
  | [],_ :: _,_,h => h.elim
  | _ :: _,[],_,h => h.elim
  | n :: ns,d :: ds,_,h => by
    obtain ⟨_,_,_,_,_,_,_,_,_,_,h',_⟩ := h;simp [vars_length h']
set_option maxRecDepth 100000 in
set_option maxHeartbeats 8000000 in
theorem walk (v0a v0b v0c : Value) (cs0 ps0 : List Int) (bs0 : List Bk) (ok1 : Int) (on1 oo1 : ByteArray) (oa1 ov1 oe1 : Int) (w : World) (w0 : RS w.heap.size w v0a v0b v0c cs0 ps0 bs0) (z0 : ∀ b ∈ bs0,FitRuns b.rs /\ b.nm.size <= maxLen) (u1 : on1.size <= maxLen) (x1 : oo1.size <= maxLen) (fk1 : I64 ok1) (fa1 : I64 oa1) (fv1 : I64 ov1) (fe1 : I64 oe1) (ad : Nat -> Addr) (hvs : VarsS w ad) :
    Calls Tryz.prog 6 #[.agg #[v0a,v0b,v0c],.agg #[.int .i64 ok1,.string on1,.string oo1,.int .i64 oa1,.int .i64 ov1,.int .i64 oe1]] w fun e w' => e = .returned (.bool true) /\ Below w.heap.size w w' := by
  have r0 := w0;obtain ⟨WA,hWA,kA,kO,d,zA⟩ := box2 w #[v0a,v0b,v0c] #[.int .i64 ok1,.string on1,.string oo1,.int .i64 oa1,.int .i64 ov1,.int .i64 oe1] 56 57;have sA : w.heap.size < WA.heap.size := by omega
  have sO : w.heap.size + 1 < WA.heap.size := by omega
  have y0 := d.size;replace r0 := r0.below d;have HWA : Hid (WA = _) := hWA;have HN : Hid (∀ b ∈ bs0,b.nm.size <= maxLen) := fun b hb => (z0 b hb).2
  have HF : Hid (∀ b ∈ bs0,FitRuns b.rs) := fun b hb => (z0 b hb).1
  clear hWA zA w0 z0
  obtain ⟨⟨D1,rc,rv⟩,hD⟩ : ∃ x,didOp ⟨cs0,ps0,bs0.map Bk.pb⟩ ⟨ok1,on1,oo1,oa1,ov1,oe1⟩ = x := ⟨_,rfl⟩
  have HD : Hid (didOp ⟨cs0,ps0,bs0.map Bk.pb⟩ ⟨ok1,on1,oo1,oa1,ov1,oe1⟩ = (D1,(rc,rv))) := hD;clear hD
  go_enter Tryz.func6,Tryz.ntmps6
  go_wp2_with fail
  rw [<- HWA.out];clear HWA;refine (szShelf2_any v0a v0b v0c cs0 ps0 bs0 1048576 _ (by omega) (by omega) HN.out (r0.mono y0)).mono ?_;rintro e wb ⟨q,rfl,hq,b⟩;replace d := bw_call d b;replace kA := (b.block _ sA).trans kA;replace sA := Nat.lt_of_lt_of_le sA b.size;replace kO := (b.block _ sO).trans kO;replace sO := Nat.lt_of_lt_of_le sO b.size;replace r0 := r0.below (b.mono y0);replace y0 := Nat.le_trans y0 b.size;clear b
  rcases hq with rfl | ⟨hq0,hq1,hbc,hbp,hbb,hball,htot⟩
  · go_wp2_with fail
    go_ret;exact ⟨rfl,d⟩
  have HR : Hid (∀ b ∈ bs0,b.rs.length <= 1048576) := fun b hb => (hball b hb).2
  clear hball;obtain ⟨pO0,pO1,pO2,pO3,pO4,pO5⟩ := c6 kO
  go_wp2_with fail
  clear pO0 pO1 pO2 pO3 pO4 pO5;refine (szOp_any ok1 on1 oo1 oa1 ov1 oe1 q _ u1 x1 hq0 (by omega)).mono ?_;rintro e wd ⟨q2,rfl,hq2,b⟩;replace d := bw_call d b;replace kA := (b.block _ sA).trans kA;replace sA := Nat.lt_of_lt_of_le sA b.size;replace kO := (b.block _ sO).trans kO;replace sO := Nat.lt_of_lt_of_le sO b.size;replace r0 := r0.below (b.mono y0);replace y0 := Nat.le_trans y0 b.size;clear b
  rcases hq2 with rfl | ⟨hq3,hq4,hb1,hb2⟩
  · go_wp2_with fail
    go_ret;exact ⟨rfl,d⟩
  go_upto_region 8 with fail
  have HFX0 : Hid (I64 ok1 /\ I64 oa1 /\ I64 ov1 /\ I64 oe1) := ⟨fk1,fa1,fv1,fe1⟩
  obtain ⟨O,hO0⟩ : ∃ O : Array Value -> World -> Prop,O = fun zs x => ∃ y0 y1 y2 : Value,zs = #[y0,y1,y2] /\ (∃ g1 k1 g2 k2 gb kb,y0 = .slice g1 D1.cs.length k1 /\ y1 = .slice g2 D1.ps.length k2 /\ ∃ ys : List Bk,y2 = .slice gb ys.length kb /\ ys.map Bk.pb = D1.bs /\ OwnW wd.heap.size x y0 y1 y2 D1.cs D1.ps ys) := ⟨_,rfl⟩
  obtain ⟨F,hF0⟩ : ∃ F : Bool -> Nat -> Value -> World -> Prop,F = fun b j v x => match j with
    | 0 => v = .agg #[v0a,v0b,v0c]
    | 1 => b = true \/ ∃ t1 t2 tb ts,v = .agg #[t1,t2,tb] /\ ts.map plainB = bs0.map plainB /\ RS x.heap.size x t1 t2 tb cs0 ps0 ts
    | 2 => v = .agg #[.int .i64 ok1,.string on1,.string oo1,.int .i64 oa1,.int .i64 ov1,.int .i64 oe1]
    | 3 => v = .agg #[.int .i64 ok1,.string on1,.string oo1,.int .i64 oa1,.int .i64 ov1,.int .i64 oe1]
    | 4 => ∃ zs,v = .tuple #[.agg zs,.agg #[.int .i64 rc,.int .i64 rv]] /\ O zs x
    | 5 => ∃ zs,v = .tuple #[.agg zs,.agg #[.int .i64 rc,.int .i64 rv]] /\ O zs x
    | 6 => ∃ zs,v = .agg zs /\ O zs x
    | 7 => v = .agg #[.int .i64 rc,.int .i64 rv]
    | _ => True := ⟨_,rfl⟩
  have hO : Hid _ := hO0;have hF : Hid _ := hF0;clear hO0 hF0
  have OM : ∀ x x' zs,Below x.heap.size x x' -> O zs x -> O zs x' := fun x x' zs b => by
    rw [hO.out];rintro ⟨y0,y1,y2,e,g1,k1,g2,k2,gb,kb,e1,e2,ys,e3,e4,o⟩;exact ⟨y0,y1,y2,e,g1,k1,g2,k2,gb,kb,e1,e2,ys,e3,e4,o.below b⟩
  have FM : ∀ x x',Below x.heap.size x x' -> ∀ b j v,F b j v x -> F b j v x' := fun x x' hb b j v => by
    rw [hF.out]
    match j with
    | 0 => exact id
    | 1 => exact fun h => h.imp id (fun ⟨t1,t2,tb,ts,e,hp,r⟩ => ⟨t1,t2,tb,ts,e,hp,r.upAt (Nat.le_refl _) hb⟩)
    | 2 => exact id
    | 3 => exact id
    | 4 => exact fun ⟨zs,e,o⟩ => ⟨zs,e,OM x x' zs hb o⟩
    | 5 => exact fun ⟨zs,e,o⟩ => ⟨zs,e,OM x x' zs hb o⟩
    | 6 => exact fun ⟨zs,e,o⟩ => ⟨zs,e,OM x x' zs hb o⟩
    | 7 => exact id
    | _ + 8 => exact id
  go_cut [6,7] (fun va vb wx => ∃ (n0 n1 : Nat) (zs : Array Value),va = .pointer (some ⟨n0,0,none⟩) /\ vb = .pointer (some ⟨n1,0,none⟩) /\ wx.heap[n0]? = some (.cells zs 42 (0,0)) /\ O zs wx /\ wx.heap[n1]? = some (.cells #[.int .i64 rc,.int .i64 rv] 30 (0,0)) /\ Below wd.heap.size wd wx /\ wd.heap.size <= n0 /\ wd.heap.size <= n1)
  case first =>
    refine wp_region_inv (I := RInv _ 10 11 (R2 wd 42 30 #[.slice none 0 0,.slice none 0 0,.slice none 0 0] #[.int .i64 0,.int .i64 0] #[.int .i64 rc,.int .i64 rv] F O 8 9) _ wd) (by kernel_rfl) (RInv.start _ 10 11 _ _ wd) ?_ ?_
    · intro L a x i hL hD hi h
      have hi12 : i < 12 := (ready_mem hi).1;have hnot := (ready_mem hi).2.1;have hc : i = 0 \/ i = 1 \/ i = 2 \/ i = 3 \/ i = 4 \/ i = 5 \/ i = 6 \/ i = 7 \/ i = 8 \/ i = 9 \/ i = 10 \/ i = 11 := by omega
      have MONO : ∀ x',Below x.heap.size x x' -> ∀ b c j u,R2 wd 42 30 #[.slice none 0 0,.slice none 0 0,.slice none 0 0] #[.int .i64 0,.int .i64 0] #[.int .i64 rc,.int .i64 rv] F O 8 9 b c j u x -> R2 wd 42 30 #[.slice none 0 0,.slice none 0 0,.slice none 0 0] #[.int .i64 0,.int .i64 0] #[.int .i64 rc,.int .i64 rv] F O 8 9 b c j u x' := fun x' hb b c j u => R2.mono (FM x x' hb) (fun ys => OM x x' ys hb) hb b c j u
      rcases hc with rfl | rfl | rfl | rfl | rfl | rfl | rfl | rfl | rfl | rfl | rfl | rfl
      · refine wpOp_of rfl rfl ?_
        refine op_load 56 2 rfl w.heap.size (h.old 2 (by kernel_rfl)) #[v0a,v0b,v0c] 56 (0,0) ((h.bel.block _ sA).trans kA) _ Tryz.underlying56 rfl (by kernel_rfl) ?_;exact h.val 0 27 _ x (by decide) (by decide) (by kernel_rfl) (of_decide_eq_true (by kernel_rfl)) (by kernel_rfl) (by kernel_rfl) (Below.refl _ _) (by rw [R2.val (by decide) (by decide),hF.out];exact rfl) (fun _ _ _ _ r => r)
      · have r := h.rel 0 27 (ready_dep hi (by kernel_rfl)) (by kernel_rfl)
        rw [R2.val (by decide) (by decide),hF.out] at r;have ea : a.tmps.getD 27 undef = .agg #[v0a,v0b,v0c] := r;clear r;refine wpOp_of rfl rfl ?_;unfold Oper.wp
        go_simp
        go_at_call 27
        refine (toShelf_any _ _ _ cs0 ps0 bs0 _ hbc hbp hbb HR.out (RS.upAt r0 y0 h.bel)).mono ?_;rintro e x1 ⟨t1,t2,tb,ts,rfl,hpt,ot,b⟩;exact h.val 1 28 _ x1 (by decide) (by decide) (by kernel_rfl) (of_decide_eq_true (by kernel_rfl)) (by kernel_rfl) (by kernel_rfl) b (by rw [R2.val (by decide) (by decide),hF.out];exact .inr ⟨t1,t2,tb,ts,rfl,hpt,ot.reads⟩) (MONO x1 b)
      · refine wpOp_of rfl rfl ?_
        refine op_load 57 3 rfl (w.heap.size + 1) (h.old 3 (by kernel_rfl)) #[.int .i64 ok1,.string on1,.string oo1,.int .i64 oa1,.int .i64 ov1,.int .i64 oe1] 57 (0,0) ((h.bel.block _ sO).trans kO) _ Tryz.underlying57 rfl (by kernel_rfl) ?_;exact h.val 2 29 _ x (by decide) (by decide) (by kernel_rfl) (of_decide_eq_true (by kernel_rfl)) (by kernel_rfl) (by kernel_rfl) (Below.refl _ _) (by rw [R2.val (by decide) (by decide),hF.out];exact rfl) (fun _ _ _ _ r => r)
      · have r := h.rel 2 29 (ready_dep hi (by kernel_rfl)) (by kernel_rfl)
        rw [R2.val (by decide) (by decide),hF.out] at r;have ea : a.tmps.getD 29 undef = .agg #[.int .i64 ok1,.string on1,.string oo1,.int .i64 oa1,.int .i64 ov1,.int .i64 oe1] := r;clear r;refine wpOp_of rfl rfl ?_;unfold Oper.wp
        go_simp
        go_at_call 28
        refine (toOp_any ok1 on1 oo1 oa1 ov1 oe1 _).mono ?_;rintro e x1 ⟨rfl,b⟩;exact h.val 3 30 _ x1 (by decide) (by decide) (by kernel_rfl) (of_decide_eq_true (by kernel_rfl)) (by kernel_rfl) (by kernel_rfl) b (by rw [R2.val (by decide) (by decide),hF.out];exact rfl) (MONO x1 b)
      · have r := h.rel 1 28 (ready_dep hi (by kernel_rfl)) (by kernel_rfl)
        rw [hD.not (i := 10) (k := 4) (by kernel_rfl) hnot] at r;rw [R2.val (by decide) (by decide),hF.out] at r;obtain ⟨t1,t2,tb,ts,ea,hpt,rs⟩ := (show (false = true \/ ∃ t1 t2 tb ts,a.tmps.getD 28 undef = .agg #[t1,t2,tb] /\ ts.map plainB = bs0.map plainB /\ RS x.heap.size x t1 t2 tb cs0 ps0 ts) from r).resolve_left (by simp);clear r;have r3 := h.rel 3 30 (ready_dep hi (by kernel_rfl)) (by kernel_rfl);rw [R2.val (by decide) (by decide),hF.out] at r3;have eb : a.tmps.getD 30 undef = .agg #[.int .i64 ok1,.string on1,.string oo1,.int .i64 oa1,.int .i64 ov1,.int .i64 oe1] := r3;clear r3;refine wpOp_of rfl rfl ?_;unfold Oper.wp
        go_simp
        go_at_call 23
        refine (specDidO_any _ _ _ cs0 ps0 ts ok1 on1 oo1 oa1 ov1 oe1 _ (plain_all (fun nm _ => nm.size <= maxLen) hpt HN.out) u1 x1 rs.p.c rs.p.p rs.b).mono ?_;rw [pb_of_plain hpt,HD.out];simp only;rintro e x2 ⟨g1,g2,gb,rfl,oY,b⟩;obtain ⟨ys,oYb,hmY⟩ := oY.b;have oYp := oY.p;obtain ⟨z1,f1,z2,f2,hz1,hz2⟩ := oYp.forms;obtain ⟨zb,fb,hzb⟩ := own_slice oYb.row
        have ow : OwnW wd.heap.size x2 g1 g2 gb D1.cs D1.ps ys := ⟨oYp.mono h.bel.size,oYb.mono h.bel.size⟩
        have hOO : O #[g1,g2,gb] x2 := by rw [hO.out];exact ⟨g1,g2,gb,rfl,z1,f1,z2,f2,zb,fb,hz1,hz2,ys,hzb,hmY,ow⟩
        exact h.val 4 31 _ x2 (by decide) (by decide) (by kernel_rfl) (of_decide_eq_true (by kernel_rfl)) (by kernel_rfl) (by kernel_rfl) b (by rw [R2.val (by decide) (by decide),hF.out];exact ⟨_,rfl,hOO⟩) (MONO x2 b)
      · have r := h.rel 4 31 (ready_dep hi (by kernel_rfl)) (by kernel_rfl)
        rw [R2.val (by decide) (by decide),hF.out] at r;refine wpOp_of rfl rfl (op_move 31 rfl ?_);exact h.val 5 26 _ x (by decide) (by decide) (by kernel_rfl) (of_decide_eq_true (by kernel_rfl)) (by kernel_rfl) (by kernel_rfl) (Below.refl _ _) (by rw [R2.val (by decide) (by decide),hF.out];exact r) (fun _ _ _ _ r => r)
      · have r := h.rel 5 26 (ready_dep hi (by kernel_rfl)) (by kernel_rfl)
        rw [R2.val (by decide) (by decide),hF.out] at r
        obtain ⟨zs,ea,hOO⟩ := (show ∃ zs,a.tmps.getD 26 undef = .tuple #[.agg zs,.agg #[.int .i64 rc,.int .i64 rv]] /\ O zs x from r)
        clear r;refine wpOp_of rfl rfl ?_;unfold Oper.wp
        go_simp
        exact h.val 6 32 _ x (by decide) (by decide) (by kernel_rfl) (of_decide_eq_true (by kernel_rfl)) (by kernel_rfl) (by kernel_rfl) (Below.refl _ _) (by rw [R2.val (by decide) (by decide),hF.out];exact ⟨zs,rfl,hOO⟩) (fun _ _ _ _ r => r)
      · have r := h.rel 5 26 (ready_dep hi (by kernel_rfl)) (by kernel_rfl)
        rw [R2.val (by decide) (by decide),hF.out] at r
        obtain ⟨zs,ea,hOO⟩ := (show ∃ zs,a.tmps.getD 26 undef = .tuple #[.agg zs,.agg #[.int .i64 rc,.int .i64 rv]] /\ O zs x from r)
        clear r;refine wpOp_of rfl rfl ?_;unfold Oper.wp
        go_simp
        exact h.val 7 33 _ x (by decide) (by decide) (by kernel_rfl) (of_decide_eq_true (by kernel_rfl)) (by kernel_rfl) (by kernel_rfl) (Below.refl _ _) (by rw [R2.val (by decide) (by decide),hF.out];exact rfl) (fun _ _ _ _ r => r)
      · refine wpOp_of rfl rfl ?_
        unfold Oper.wp
        go_simp
        have hn := hD.not (i := 10) (k := 8) (by kernel_rfl) hnot;have b : Below x.heap.size x (x.alloc (.cells #[.slice none 0 0,.slice none 0 0,.slice none 0 0] 42)) := bw_alloc (Below.refl _ _);exact h.val 8 6 _ _ (by decide) (by decide) (by kernel_rfl) (of_decide_eq_true (by kernel_rfl)) (by kernel_rfl) (by kernel_rfl) b (by unfold R2;rw [if_pos rfl,hn];exact ⟨_,rfl,h.bel.size,(fun e => by cases e),fun _ => heap_alloc_new _ _⟩) (MONO _ b)
      · refine wpOp_of rfl rfl ?_
        unfold Oper.wp
        go_simp
        have hn := hD.not (i := 11) (k := 9) (by kernel_rfl) hnot;have b : Below x.heap.size x (x.alloc (.cells #[.int .i64 0,.int .i64 0] 30)) := bw_alloc (Below.refl _ _);exact h.val 9 7 _ _ (by decide) (by decide) (by kernel_rfl) (of_decide_eq_true (by kernel_rfl)) (by kernel_rfl) (by kernel_rfl) b (by unfold R2;rw [if_neg (by decide),if_pos rfl,hn];exact ⟨_,rfl,h.bel.size,(fun e => by cases e),fun _ => heap_alloc_new _ _⟩) (MONO _ b)
      · obtain ⟨n,e6,hwn,-,h4⟩ := R2.box (h.rel 8 6 (ready_dep hi (by kernel_rfl)) (by kernel_rfl))
        have hl10 := not_done hnot;rw [hl10] at h4;have k6 := h4 rfl;have r := h.rel 6 32 (ready_dep hi (by kernel_rfl)) (by kernel_rfl);rw [R2.val (by decide) (by decide),hF.out] at r
        obtain ⟨zs,e32,hOO⟩ := (show ∃ zs,a.tmps.getD 32 undef = .agg zs /\ O zs x from r)
        clear r h4
        have OU : ∀ zs' ys',O zs' x -> O zs' (x.setRow n ys') := fun zs' ys' => by
          rw [hO.out];rintro ⟨y0,y1,y2,e,g1,k1,g2,k2,gb,kb,e1,e2,ys,e3,e4,o⟩;exact ⟨y0,y1,y2,e,g1,k1,g2,k2,gb,kb,e1,e2,ys,e3,e4,o.box k6 (setRow_upto x n ys') (by decide) (by decide) (by decide)⟩
        have FU : ∀ j v,F false j v x -> F true j v (x.setRow n zs) := fun j v => by
          rw [hF.out]
          match j with
          | 0 => exact id
          | 1 => exact fun _ => .inl rfl
          | 2 => exact id
          | 3 => exact id
          | 4 => exact fun ⟨zs',e,o⟩ => ⟨zs',e,OU zs' zs o⟩
          | 5 => exact fun ⟨zs',e,o⟩ => ⟨zs',e,OU zs' zs o⟩
          | 6 => exact fun ⟨zs',e,o⟩ => ⟨zs',e,OU zs' zs o⟩
          | 7 => exact id
          | _ + 8 => exact id
        have hO2 := OU zs zs hOO
        have hfc : zs.size = 3 /\ zs.all (·.oneCell') = true := by
          rw [hO.out] at hOO;obtain ⟨y0,y1,y2,e,g1,k1,g2,k2,gb,kb,e1,e2,ys,e3,e4,o⟩ := hOO;subst e e1 e2 e3;exact ⟨rfl,by simp [Value.oneCell']⟩
        refine wpOp_of rfl rfl ?_;refine op_store 42 6 32 rfl rfl n e6 zs e32 #[.slice none 0 0,.slice none 0 0,.slice none 0 0] 42 k6 (by rw [hfc.1];kernel_rfl) (by rw [hfc.1];rfl) hfc.2 ?_;exact h.storeS (by rw [hL];exact of_decide_eq_true (by kernel_rfl)) hl10 (by decide) (by kernel_rfl) (by kernel_rfl) (by decide) e6 k6 hwn (by decide) hO2 FU
      · obtain ⟨n,e7,hwn,-,h4⟩ := R2.box2 (by decide) (h.rel 9 7 (ready_dep hi (by kernel_rfl)) (by kernel_rfl))
        have hl11 := not_done hnot;rw [hl11] at h4;have k7 := h4 rfl;have r := h.rel 7 33 (ready_dep hi (by kernel_rfl)) (by kernel_rfl);rw [R2.val (by decide) (by decide),hF.out] at r;have e33 : a.tmps.getD 33 undef = .agg #[.int .i64 rc,.int .i64 rv] := r;have hl10 : L.getD 10 false = true := ready_dep hi (by kernel_rfl);clear r h4
        have OU : ∀ zs',O zs' x -> O zs' (x.setRow n #[.int .i64 rc,.int .i64 rv]) := fun zs' => by
          rw [hO.out];rintro ⟨y0,y1,y2,e,g1,k1,g2,k2,gb,kb,e1,e2,ys,e3,e4,o⟩;exact ⟨y0,y1,y2,e,g1,k1,g2,k2,gb,kb,e1,e2,ys,e3,e4,o.box k7 (setRow_upto x n #[.int .i64 rc,.int .i64 rv]) (by decide) (by decide) (by decide)⟩
        have FU : ∀ j v,F true j v x -> F true j v (x.setRow n #[.int .i64 rc,.int .i64 rv]) := fun j v => by
          rw [hF.out]
          match j with
          | 0 => exact id
          | 1 => exact fun _ => .inl rfl
          | 2 => exact id
          | 3 => exact id
          | 4 => exact fun ⟨zs',e,o⟩ => ⟨zs',e,OU zs' o⟩
          | 5 => exact fun ⟨zs',e,o⟩ => ⟨zs',e,OU zs' o⟩
          | 6 => exact fun ⟨zs',e,o⟩ => ⟨zs',e,OU zs' o⟩
          | 7 => exact id
          | _ + 8 => exact id
        refine wpOp_of rfl rfl ?_;refine op_store 30 7 33 rfl rfl n e7 #[.int .i64 rc,.int .i64 rv] e33 #[.int .i64 0,.int .i64 0] 30 k7 (by kernel_rfl) rfl (by simp [Value.oneCell']) ?_;exact h.storeR (by rw [hL];exact of_decide_eq_true (by kernel_rfl)) hl11 hl10 (by decide) (by kernel_rfl) (by kernel_rfl) (by decide) e7 k7 hwn (by decide) OU FU
    · intro L a x hL hD hr h
      have hall := all_done hL hr (by kernel_rfl);obtain ⟨n0,e6,hw0,h3,-⟩ := R2.box (h.rel 8 6 (hall 8 (of_decide_eq_true (by kernel_rfl))) (by kernel_rfl));obtain ⟨n1,e7,hw1,h4,-⟩ := R2.box2 (by decide) (h.rel 9 7 (hall 9 (of_decide_eq_true (by kernel_rfl))) (by kernel_rfl));rw [hall 10 (of_decide_eq_true (by kernel_rfl))] at h3;rw [hall 11 (of_decide_eq_true (by kernel_rfl))] at h4;obtain ⟨zs,k0,hOO⟩ := h3 rfl;have k1 := h4 rfl;have hb := h.bel;have hfr := h.frame [6,7,26,27,28,29,30,31,32,33] (by kernel_rfl)
      obtain ⟨f,hf⟩ : ∃ f : Nat -> Value,(fun s => a.tmps.getD s undef) = f := ⟨_,rfl⟩
      rw [hf] at hfr;have f6 : f 6 = .pointer (some ⟨n0,0,none⟩) := by rw [<- hf];exact e6
      have f7 : f 7 = .pointer (some ⟨n1,0,none⟩) := by rw [<- hf];exact e7
      clear hf e6 e7 h h3 h4 hall hr hD hL;subst hfr;simp only [Act.puts,f6,f7,Act.put,List.setIfInBounds_toArray,List.set_cons_succ,List.set_cons_zero];generalize f 26 = ux26;generalize f 27 = ux27;generalize f 28 = ux28;generalize f 29 = ux29;generalize f 30 = ux30;generalize f 31 = ux31;generalize f 32 = ux32;generalize f 33 = ux33;clear f6 f7 f
      show Exit.then _ _ _ _ _
      go_wp2_with fail
      go_meet
      exact ⟨n0,n1,zs,rfl,rfl,k0,hOO,k1,hb,hw0,hw1⟩
  case rest =>
    obtain ⟨nW,nV,zs,rfl,rfl,kW,hOO,kV,b,hnW,hnV⟩ := hcut;rw [hO.out] at hOO;obtain ⟨y0',y1,y2,rfl,g1,k1,g2,k2,gb,kb,rfl,rfl,ys,rfl,hmY,oW⟩ := hOO;clear hO hF OM FM
    rename World => W8
    have lW := heap_lt kW;have lV := heap_lt kV;replace d := bw_call d b;replace kA := (b.block _ sA).trans kA;replace sA := Nat.lt_of_lt_of_le sA b.size;replace kO := (b.block _ sO).trans kO;replace sO := Nat.lt_of_lt_of_le sO b.size;replace r0 := r0.below (b.mono y0);replace y0 := Nat.le_trans y0 b.size;clear b;have rW := oW.reads;have yW : W8.heap.size <= W8.heap.size := Nat.le_refl _;clear oW;have nW8 : nW < W8.heap.size := lW;have nV8 : nV < W8.heap.size := lV;have cO0 : w.heap.size + 1 < W8.heap.size := sO;obtain ⟨pA0,pA1,pA2⟩ := c3 kA
    go_wp2_with fail
    clear pA0 pA1 pA2;have cX1 : w.heap.size < W8.heap.size := sA;refine (toShelf_any v0a v0b v0c cs0 ps0 bs0 _ hbc hbp hbb HR.out (r0.mono y0)).mono ?_;rintro e wf ⟨x1,x2,xb,xs,rfl,hpx,ox,b⟩;have cX3 := b.size;replace d := bw_call d b;replace kA := (b.block _ sA).trans kA;replace sA := Nat.lt_of_lt_of_le sA b.size;replace kO := (b.block _ sO).trans kO;replace sO := Nat.lt_of_lt_of_le sO b.size;replace r0 := r0.below (b.mono y0);replace y0 := Nat.le_trans y0 b.size;replace kW := (b.block _ lW).trans kW;replace lW := Nat.lt_of_lt_of_le lW b.size;replace kV := (b.block _ lV).trans kV;replace lV := Nat.lt_of_lt_of_le lV b.size;replace rW := rW.below (b.mono yW);replace yW := Nat.le_trans yW b.size;clear b;have HPX : Hid _ := hpx;clear hpx;obtain ⟨ox1,cx1,ox2,cx2,oxb,cxb,rfl,rfl,rfl⟩ := ox.forms;have b : Below wf.heap.size wf (wf.alloc (.cells #[.slice ox1 cs0.length cx1,.slice ox2 ps0.length cx2,.slice oxb xs.length cxb] 42)) := bw_alloc (Below.refl _ _);have kX := heap_alloc_new wf (.cells #[.slice ox1 cs0.length cx1,.slice ox2 ps0.length cx2,.slice oxb xs.length cxb] 42);have sX : wf.heap.size < (wf.alloc (.cells #[.slice ox1 cs0.length cx1,.slice ox2 ps0.length cx2,.slice oxb xs.length cxb] 42)).heap.size := by simp
    replace d := bw_call d b;replace kA := (b.block _ sA).trans kA;replace sA := Nat.lt_of_lt_of_le sA b.size;replace kO := (b.block _ sO).trans kO;replace sO := Nat.lt_of_lt_of_le sO b.size;replace r0 := r0.below (b.mono y0);replace y0 := Nat.le_trans y0 b.size;replace kW := (b.block _ lW).trans kW;replace lW := Nat.lt_of_lt_of_le lW b.size;replace kV := (b.block _ lV).trans kV;replace lV := Nat.lt_of_lt_of_le lV b.size;replace rW := rW.below (b.mono yW);replace yW := Nat.le_trans yW b.size;replace ox := ox.below b;clear b;have HNX : Hid (∀ b ∈ xs,b.nm.size <= maxLen) := plain_all (fun nm _ => nm.size <= maxLen) HPX.out HN.out;have HFX : Hid (∀ b ∈ xs,FitRuns b.rs) := plain_all (fun _ rs => FitRuns rs) HPX.out HF.out;have TX : Hid _ := ox.span
    go_upto_region 10 with fail
    generalize wf.alloc (.cells #[.slice ox1 cs0.length cx1,.slice ox2 ps0.length cx2,.slice oxb xs.length cxb] 42) = W9 at *;have cX4 : wf.heap.size < W9.heap.size := sX
    obtain ⟨O,hO0⟩ : ∃ O : Array Value -> World -> Prop,O = fun zs x => ∃ y0 y1 y2 : Value,zs = #[y0,y1,y2] /\ (∃ g1 k1 g2 k2 gb kb,y0 = .slice g1 D1.cs.length k1 /\ y1 = .slice g2 D1.ps.length k2 /\ ∃ ys : List Bk,y2 = .slice gb ys.length kb /\ ys.map Bk.pb = D1.bs /\ OwnS W9.heap.size x y0 y1 y2 D1.cs D1.ps ys) := ⟨_,rfl⟩
    obtain ⟨F,hF0⟩ : ∃ F : Bool -> Nat -> Value -> World -> Prop,F = fun b j v x => match j with
      | 0 => v = .agg #[.slice ox1 cs0.length cx1,.slice ox2 ps0.length cx2,.slice oxb xs.length cxb]
      | 1 => v = .agg #[.int .i64 ok1,.string on1,.string oo1,.int .i64 oa1,.int .i64 ov1,.int .i64 oe1]
      | 2 => v = .agg #[.int .i64 ok1,.string on1,.string oo1,.int .i64 oa1,.int .i64 ov1,.int .i64 oe1]
      | 3 => ∃ zs,v = .tuple #[.agg zs,.agg #[.int .i64 rc,.int .i64 rv]] /\ O zs x
      | 4 => ∃ zs,v = .tuple #[.agg zs,.agg #[.int .i64 rc,.int .i64 rv]] /\ O zs x
      | 5 => ∃ zs,v = .agg zs /\ O zs x
      | 6 => v = .agg #[.int .i64 rc,.int .i64 rv]
      | _ => True := ⟨_,rfl⟩
    have hO : Hid _ := hO0;have hF : Hid _ := hF0;clear hO0 hF0
    have OM : ∀ x x' zs,Below x.heap.size x x' -> O zs x -> O zs x' := fun x x' zs b => by
      rw [hO.out];rintro ⟨y0,y1,y2,e,g1,k1,g2,k2,gb,kb,e1,e2,ys,e3,e4,o⟩;exact ⟨y0,y1,y2,e,g1,k1,g2,k2,gb,kb,e1,e2,ys,e3,e4,o.below b⟩
    have FM : ∀ x x',Below x.heap.size x x' -> ∀ b j v,F b j v x -> F b j v x' := fun x x' hb b j v => by
      rw [hF.out]
      match j with
      | 0 => exact id
      | 1 => exact id
      | 2 => exact id
      | 3 => exact fun ⟨zs,e,o⟩ => ⟨zs,e,OM x x' zs hb o⟩
      | 4 => exact fun ⟨zs,e,o⟩ => ⟨zs,e,OM x x' zs hb o⟩
      | 5 => exact fun ⟨zs,e,o⟩ => ⟨zs,e,OM x x' zs hb o⟩
      | 6 => exact id
      | _ + 7 => exact id
    go_cut [9,10] (fun va vb wx => ∃ (n0 n1 : Nat) (zs : Array Value),va = .pointer (some ⟨n0,0,none⟩) /\ vb = .pointer (some ⟨n1,0,none⟩) /\ wx.heap[n0]? = some (.cells zs 42 (0,0)) /\ O zs wx /\ wx.heap[n1]? = some (.cells #[.int .i64 rc,.int .i64 rv] 30 (0,0)) /\ Below W9.heap.size W9 wx /\ W9.heap.size <= n0 /\ W9.heap.size <= n1)
    case first =>
      refine wp_region_inv (I := RInv _ 9 10 (R2 W9 42 30 #[.slice none 0 0,.slice none 0 0,.slice none 0 0] #[.int .i64 0,.int .i64 0] #[.int .i64 rc,.int .i64 rv] F O 7 8) _ W9) (by kernel_rfl) (RInv.start _ 9 10 _ _ W9) ?_ ?_
      · intro L a x i hL hD hi h
        have hi12 : i < 11 := (ready_mem hi).1;have hnot := (ready_mem hi).2.1;have hc : i = 0 \/ i = 1 \/ i = 2 \/ i = 3 \/ i = 4 \/ i = 5 \/ i = 6 \/ i = 7 \/ i = 8 \/ i = 9 \/ i = 10 := by omega
        have MONO : ∀ x',Below x.heap.size x x' -> ∀ b c j u,R2 W9 42 30 #[.slice none 0 0,.slice none 0 0,.slice none 0 0] #[.int .i64 0,.int .i64 0] #[.int .i64 rc,.int .i64 rv] F O 7 8 b c j u x -> R2 W9 42 30 #[.slice none 0 0,.slice none 0 0,.slice none 0 0] #[.int .i64 0,.int .i64 0] #[.int .i64 rc,.int .i64 rv] F O 7 8 b c j u x' := fun x' hb b c j u => R2.mono (FM x x' hb) (fun ys => OM x x' ys hb) hb b c j u
        rcases hc with rfl | rfl | rfl | rfl | rfl | rfl | rfl | rfl | rfl | rfl | rfl
        · refine wpOp_of rfl rfl ?_
          refine op_load 42 8 rfl wf.heap.size (h.old 8 (by kernel_rfl)) #[.slice ox1 cs0.length cx1,.slice ox2 ps0.length cx2,.slice oxb xs.length cxb] 42 (0,0) ((h.bel.block _ sX).trans kX) _ Tryz.underlying42 rfl (by kernel_rfl) ?_;exact h.val 0 37 _ x (by decide) (by decide) (by kernel_rfl) (of_decide_eq_true (by kernel_rfl)) (by kernel_rfl) (by kernel_rfl) (Below.refl _ _) (by rw [R2.val (by decide) (by decide),hF.out];exact rfl) (fun _ _ _ _ r => r)
        · refine wpOp_of rfl rfl ?_
          refine op_load 57 3 rfl (w.heap.size + 1) (h.old 3 (by kernel_rfl)) #[.int .i64 ok1,.string on1,.string oo1,.int .i64 oa1,.int .i64 ov1,.int .i64 oe1] 57 (0,0) ((h.bel.block _ sO).trans kO) _ Tryz.underlying57 rfl (by kernel_rfl) ?_;exact h.val 1 38 _ x (by decide) (by decide) (by kernel_rfl) (of_decide_eq_true (by kernel_rfl)) (by kernel_rfl) (by kernel_rfl) (Below.refl _ _) (by rw [R2.val (by decide) (by decide),hF.out];exact rfl) (fun _ _ _ _ r => r)
        · have r := h.rel 1 38 (ready_dep hi (by kernel_rfl)) (by kernel_rfl)
          rw [R2.val (by decide) (by decide),hF.out] at r;have ea : a.tmps.getD 38 undef = .agg #[.int .i64 ok1,.string on1,.string oo1,.int .i64 oa1,.int .i64 ov1,.int .i64 oe1] := r;clear r;refine wpOp_of rfl rfl ?_;unfold Oper.wp
          go_simp
          go_at_call 28
          refine (toOp_any ok1 on1 oo1 oa1 ov1 oe1 _).mono ?_;rintro e x1 ⟨rfl,b⟩;exact h.val 2 39 _ x1 (by decide) (by decide) (by kernel_rfl) (of_decide_eq_true (by kernel_rfl)) (by kernel_rfl) (by kernel_rfl) b (by rw [R2.val (by decide) (by decide),hF.out];exact rfl) (MONO x1 b)
        · have r := h.rel 0 37 (ready_dep hi (by kernel_rfl)) (by kernel_rfl)
          rw [R2.val (by decide) (by decide),hF.out] at r;have ea : a.tmps.getD 37 undef = .agg #[.slice ox1 cs0.length cx1,.slice ox2 ps0.length cx2,.slice oxb xs.length cxb] := r;clear r;have r3 := h.rel 2 39 (ready_dep hi (by kernel_rfl)) (by kernel_rfl);rw [R2.val (by decide) (by decide),hF.out] at r3;have eb : a.tmps.getD 39 undef = .agg #[.int .i64 ok1,.string on1,.string oo1,.int .i64 oa1,.int .i64 ov1,.int .i64 oe1] := r3;clear r3;refine wpOp_of rfl rfl ?_;unfold Oper.wp
          go_simp
          go_at_call 29
          refine (implDid_any _ _ _ cs0 ps0 xs ok1 on1 oo1 oa1 ov1 oe1 _ ad (hvs.below (bw_call d h.bel)) (plain_all (fun nm _ => nm.size <= maxLen) HPX.out HN.out) (plain_all (fun _ rs => FitRuns rs) HPX.out HF.out) u1 x1 fk1 fa1 fv1 fe1 (RS.upAt ox.reads (Nat.le_refl _) h.bel)).mono ?_;rw [pb_of_plain HPX.out,HD.out];simp only;rintro e x2 ⟨g1,g2,gb,ys,rfl,oY,hmY,b⟩;obtain ⟨z1,f1,z2,f2,zb,fb,hz1,hz2,hzb⟩ := oY.forms;have ow : OwnS W9.heap.size x2 g1 g2 gb D1.cs D1.ps ys := oY.mono h.bel.size;have hOO : O #[g1,g2,gb] x2 := by rw [hO.out];exact ⟨g1,g2,gb,rfl,z1,f1,z2,f2,zb,fb,hz1,hz2,ys,hzb,hmY,ow⟩
          exact h.val 3 40 _ x2 (by decide) (by decide) (by kernel_rfl) (of_decide_eq_true (by kernel_rfl)) (by kernel_rfl) (by kernel_rfl) b (by rw [R2.val (by decide) (by decide),hF.out];exact ⟨_,rfl,hOO⟩) (MONO x2 b)
        · have r := h.rel 3 40 (ready_dep hi (by kernel_rfl)) (by kernel_rfl)
          rw [R2.val (by decide) (by decide),hF.out] at r;refine wpOp_of rfl rfl (op_move 40 rfl ?_);exact h.val 4 36 _ x (by decide) (by decide) (by kernel_rfl) (of_decide_eq_true (by kernel_rfl)) (by kernel_rfl) (by kernel_rfl) (Below.refl _ _) (by rw [R2.val (by decide) (by decide),hF.out];exact r) (fun _ _ _ _ r => r)
        · have r := h.rel 4 36 (ready_dep hi (by kernel_rfl)) (by kernel_rfl)
          rw [R2.val (by decide) (by decide),hF.out] at r
          obtain ⟨zs,ea,hOO⟩ := (show ∃ zs,a.tmps.getD 36 undef = .tuple #[.agg zs,.agg #[.int .i64 rc,.int .i64 rv]] /\ O zs x from r)
          clear r;refine wpOp_of rfl rfl ?_;unfold Oper.wp
          go_simp
          exact h.val 5 41 _ x (by decide) (by decide) (by kernel_rfl) (of_decide_eq_true (by kernel_rfl)) (by kernel_rfl) (by kernel_rfl) (Below.refl _ _) (by rw [R2.val (by decide) (by decide),hF.out];exact ⟨zs,rfl,hOO⟩) (fun _ _ _ _ r => r)
        · have r := h.rel 4 36 (ready_dep hi (by kernel_rfl)) (by kernel_rfl)
          rw [R2.val (by decide) (by decide),hF.out] at r
          obtain ⟨zs,ea,hOO⟩ := (show ∃ zs,a.tmps.getD 36 undef = .tuple #[.agg zs,.agg #[.int .i64 rc,.int .i64 rv]] /\ O zs x from r)
          clear r;refine wpOp_of rfl rfl ?_;unfold Oper.wp
          go_simp
          exact h.val 6 42 _ x (by decide) (by decide) (by kernel_rfl) (of_decide_eq_true (by kernel_rfl)) (by kernel_rfl) (by kernel_rfl) (Below.refl _ _) (by rw [R2.val (by decide) (by decide),hF.out];exact rfl) (fun _ _ _ _ r => r)
        · refine wpOp_of rfl rfl ?_
          unfold Oper.wp
          go_simp
          have hn := hD.not (i := 9) (k := 7) (by kernel_rfl) hnot;have b : Below x.heap.size x (x.alloc (.cells #[.slice none 0 0,.slice none 0 0,.slice none 0 0] 42)) := bw_alloc (Below.refl _ _);exact h.val 7 9 _ _ (by decide) (by decide) (by kernel_rfl) (of_decide_eq_true (by kernel_rfl)) (by kernel_rfl) (by kernel_rfl) b (by unfold R2;rw [if_pos rfl,hn];exact ⟨_,rfl,h.bel.size,(fun e => by cases e),fun _ => heap_alloc_new _ _⟩) (MONO _ b)
        · refine wpOp_of rfl rfl ?_
          unfold Oper.wp
          go_simp
          have hn := hD.not (i := 10) (k := 8) (by kernel_rfl) hnot;have b : Below x.heap.size x (x.alloc (.cells #[.int .i64 0,.int .i64 0] 30)) := bw_alloc (Below.refl _ _);exact h.val 8 10 _ _ (by decide) (by decide) (by kernel_rfl) (of_decide_eq_true (by kernel_rfl)) (by kernel_rfl) (by kernel_rfl) b (by unfold R2;rw [if_neg (by decide),if_pos rfl,hn];exact ⟨_,rfl,h.bel.size,(fun e => by cases e),fun _ => heap_alloc_new _ _⟩) (MONO _ b)
        · obtain ⟨n,e6,hwn,-,h4⟩ := R2.box (h.rel 7 9 (ready_dep hi (by kernel_rfl)) (by kernel_rfl))
          have hl10 := not_done hnot;rw [hl10] at h4;have k6 := h4 rfl;have r := h.rel 5 41 (ready_dep hi (by kernel_rfl)) (by kernel_rfl);rw [R2.val (by decide) (by decide),hF.out] at r
          obtain ⟨zs,e32,hOO⟩ := (show ∃ zs,a.tmps.getD 41 undef = .agg zs /\ O zs x from r)
          clear r h4
          have OU : ∀ zs' ys',O zs' x -> O zs' (x.setRow n ys') := fun zs' ys' => by
            rw [hO.out];rintro ⟨y0,y1,y2,e,g1,k1,g2,k2,gb,kb,e1,e2,ys,e3,e4,o⟩;exact ⟨y0,y1,y2,e,g1,k1,g2,k2,gb,kb,e1,e2,ys,e3,e4,o.box k6 (setRow_upto x n ys') (by decide) (by decide) (by decide)⟩
          have FU : ∀ j v,F false j v x -> F true j v (x.setRow n zs) := fun j v => by
            rw [hF.out]
            match j with
            | 0 => exact id
            | 1 => exact id
            | 2 => exact id
            | 3 => exact fun ⟨zs',e,o⟩ => ⟨zs',e,OU zs' zs o⟩
            | 4 => exact fun ⟨zs',e,o⟩ => ⟨zs',e,OU zs' zs o⟩
            | 5 => exact fun ⟨zs',e,o⟩ => ⟨zs',e,OU zs' zs o⟩
            | 6 => exact id
            | _ + 7 => exact id
          have hO2 := OU zs zs hOO
          have hfc : zs.size = 3 /\ zs.all (·.oneCell') = true := by
            rw [hO.out] at hOO;obtain ⟨y0,y1,y2,e,g1,k1,g2,k2,gb,kb,e1,e2,ys,e3,e4,o⟩ := hOO;subst e e1 e2 e3;exact ⟨rfl,by simp [Value.oneCell']⟩
          refine wpOp_of rfl rfl ?_;refine op_store 42 9 41 rfl rfl n e6 zs e32 #[.slice none 0 0,.slice none 0 0,.slice none 0 0] 42 k6 (by rw [hfc.1];kernel_rfl) (by rw [hfc.1];rfl) hfc.2 ?_;exact h.storeS (by rw [hL];exact of_decide_eq_true (by kernel_rfl)) hl10 (by decide) (by kernel_rfl) (by kernel_rfl) (by decide) e6 k6 hwn (by decide) hO2 FU
        · obtain ⟨n,e7,hwn,-,h4⟩ := R2.box2 (by decide) (h.rel 8 10 (ready_dep hi (by kernel_rfl)) (by kernel_rfl))
          have hl11 := not_done hnot;rw [hl11] at h4;have k7 := h4 rfl;have r := h.rel 6 42 (ready_dep hi (by kernel_rfl)) (by kernel_rfl);rw [R2.val (by decide) (by decide),hF.out] at r;have e33 : a.tmps.getD 42 undef = .agg #[.int .i64 rc,.int .i64 rv] := r;have hl10 : L.getD 9 false = true := ready_dep hi (by kernel_rfl);clear r h4
          have OU : ∀ zs',O zs' x -> O zs' (x.setRow n #[.int .i64 rc,.int .i64 rv]) := fun zs' => by
            rw [hO.out];rintro ⟨y0,y1,y2,e,g1,k1,g2,k2,gb,kb,e1,e2,ys,e3,e4,o⟩;exact ⟨y0,y1,y2,e,g1,k1,g2,k2,gb,kb,e1,e2,ys,e3,e4,o.box k7 (setRow_upto x n #[.int .i64 rc,.int .i64 rv]) (by decide) (by decide) (by decide)⟩
          have FU : ∀ j v,F true j v x -> F true j v (x.setRow n #[.int .i64 rc,.int .i64 rv]) := fun j v => by
            rw [hF.out]
            match j with
            | 0 => exact id
            | 1 => exact id
            | 2 => exact id
            | 3 => exact fun ⟨zs',e,o⟩ => ⟨zs',e,OU zs' o⟩
            | 4 => exact fun ⟨zs',e,o⟩ => ⟨zs',e,OU zs' o⟩
            | 5 => exact fun ⟨zs',e,o⟩ => ⟨zs',e,OU zs' o⟩
            | 6 => exact id
            | _ + 7 => exact id
          refine wpOp_of rfl rfl ?_;refine op_store 30 10 42 rfl rfl n e7 #[.int .i64 rc,.int .i64 rv] e33 #[.int .i64 0,.int .i64 0] 30 k7 (by kernel_rfl) rfl (by simp [Value.oneCell']) ?_;exact h.storeR (by rw [hL];exact of_decide_eq_true (by kernel_rfl)) hl11 hl10 (by decide) (by kernel_rfl) (by kernel_rfl) (by decide) e7 k7 hwn (by decide) OU FU
      · intro L a x hL hD hr h
        have hall := all_done hL hr (by kernel_rfl);obtain ⟨n0,e6,hw0,h3,-⟩ := R2.box (h.rel 7 9 (hall 7 (of_decide_eq_true (by kernel_rfl))) (by kernel_rfl));obtain ⟨n1,e7,hw1,h4,-⟩ := R2.box2 (by decide) (h.rel 8 10 (hall 8 (of_decide_eq_true (by kernel_rfl))) (by kernel_rfl));rw [hall 9 (of_decide_eq_true (by kernel_rfl))] at h3;rw [hall 10 (of_decide_eq_true (by kernel_rfl))] at h4;obtain ⟨zs,k0,hOO⟩ := h3 rfl;have k1 := h4 rfl;have hb := h.bel;have hfr := h.frame [9,10,36,37,38,39,40,41,42] (by kernel_rfl)
        obtain ⟨f,hf⟩ : ∃ f : Nat -> Value,(fun s => a.tmps.getD s undef) = f := ⟨_,rfl⟩
        rw [hf] at hfr;have f6 : f 9 = .pointer (some ⟨n0,0,none⟩) := by rw [<- hf];exact e6
        have f7 : f 10 = .pointer (some ⟨n1,0,none⟩) := by rw [<- hf];exact e7
        clear hf e6 e7 h h3 h4 hall hr hD hL;subst hfr;simp only [Act.puts,f6,f7,Act.put,List.setIfInBounds_toArray,List.set_cons_succ,List.set_cons_zero];generalize f 36 = ux36;generalize f 37 = ux37;generalize f 38 = ux38;generalize f 39 = ux39;generalize f 40 = ux40;generalize f 41 = ux41;generalize f 42 = ux42;clear f6 f7 f
        show Exit.then _ _ _ _ _
        go_wp2_with fail
        go_meet
        exact ⟨n0,n1,zs,rfl,rfl,k0,hOO,k1,hb,hw0,hw1⟩
    case rest =>
      obtain ⟨nG,nT,zs,rfl,rfl,kG,hOO,kT,b,hnG,hnT⟩ := hcut;rw [hO.out] at hOO;obtain ⟨j0,j1,j2,rfl,h1,m1,h2,m2,hb,mb,rfl,rfl,gs,rfl,hmG,oG⟩ := hOO;clear hO hF OM FM
      rename World => W10
      have lG := heap_lt kG;have lT := heap_lt kT;replace d := bw_call d b;replace kA := (b.block _ sA).trans kA;replace sA := Nat.lt_of_lt_of_le sA b.size;replace kO := (b.block _ sO).trans kO;replace sO := Nat.lt_of_lt_of_le sO b.size;replace r0 := r0.below (b.mono y0);replace y0 := Nat.le_trans y0 b.size;replace kW := (b.block _ lW).trans kW;replace lW := Nat.lt_of_lt_of_le lW b.size;replace kV := (b.block _ lV).trans kV;replace lV := Nat.lt_of_lt_of_le lV b.size;replace rW := rW.below (b.mono yW);replace yW := Nat.le_trans yW b.size;replace ox := ox.below b;replace kX := (b.block _ sX).trans kX;replace sX := Nat.lt_of_lt_of_le sX b.size;clear b;have HGY : Hid (ys.map plainB = gs.map plainB) := plain_of_pb (hmY.trans hmG.symm);have cO1 : w.heap.size + 1 < W8.heap.size := cO0;have c89 : W8.heap.size <= W9.heap.size := by omega
      have hsm := did_small ⟨cs0,ps0,bs0.map Bk.pb⟩ ⟨ok1,on1,oo1,oa1,ov1,oe1⟩;rw [HD.out] at hsm;simp only at hsm;have hgl : gs.length <= 6 := by have := congrArg List.length hmG;rw [List.length_map] at this;omega
      have HGR : Hid (∀ b ∈ gs,b.rs.length <= 16) := fun b hb => by
        have h := hsm.2.2.2 b.pb (by rw [<- hmG];exact List.mem_map_of_mem hb);exact h
      have hgt := tot_small gs HGR.out;have HGR2 : Hid (∀ b ∈ gs,b.rs.length <= 1048576) := fun b hb => by have := HGR.out b hb;omega
      obtain ⟨hdc,hdp,-,-⟩ := hsm;have hdc2 : D1.cs.length <= 1048576 := by omega
      have hdp2 : D1.ps.length <= 1048576 := by omega
      have HXR : Hid (∀ b ∈ xs,b.rs.length <= 1048576) := plain_all (fun _ rs => rs.length <= 1048576) HPX.out HR.out;have hxt : totB xs <= 1048576 := by rw [tot_same bs0 xs HPX.out];exact htot
      have hxl : xs.length <= 1048576 := by rw [plain_len HPX.out];exact hbb
      have hEx := shelfE_is 1 cs0 ps0 xs;have hEg := shelfE_is 1 D1.cs D1.ps gs;have hEx2 : shelfE 1 cs0 ps0 xs <= 1073741824 := by omega
      have hEg2 : shelfE 1 D1.cs D1.ps gs <= 1073741824 := by omega
      have hEx0 : 0 <= shelfE 1 cs0 ps0 xs := by omega
      have hEg0 : 0 <= shelfE 1 D1.cs D1.ps gs := by omega
      have HDG : Hid _ := hmG;clear hEx hEg hgt hxt hgl hmG;obtain ⟨pG0,pG1,pG2⟩ := c3 kG;obtain ⟨pW0,pW1,pW2⟩ := c3 kW
      go_wp2_with fail
      clear pG0 pG1 pG2;clear pW0 pW1 pW2;refine (eqShelf_same _ _ _ _ _ _ D1.cs D1.ps gs ys _ HGY.out oG.reads (rW.mono yW)).mono ?_;rintro e wh1 ⟨rfl,b⟩;replace d := bw_call d b;replace kA := (b.block _ sA).trans kA;replace sA := Nat.lt_of_lt_of_le sA b.size;replace kO := (b.block _ sO).trans kO;replace sO := Nat.lt_of_lt_of_le sO b.size;replace r0 := r0.below (b.mono y0);replace y0 := Nat.le_trans y0 b.size;replace kW := (b.block _ lW).trans kW;replace lW := Nat.lt_of_lt_of_le lW b.size;replace kV := (b.block _ lV).trans kV;replace lV := Nat.lt_of_lt_of_le lV b.size;replace rW := rW.below (b.mono yW);replace yW := Nat.le_trans yW b.size;replace ox := ox.below b;replace kX := (b.block _ sX).trans kX;replace sX := Nat.lt_of_lt_of_le sX b.size;replace kG := (b.block _ lG).trans kG;replace lG := Nat.lt_of_lt_of_le lG b.size;replace kT := (b.block _ lT).trans kT;replace lT := Nat.lt_of_lt_of_le lT b.size;replace oG := oG.below b;clear b;obtain ⟨pT0,pT1⟩ := c2 kT;obtain ⟨pV0,pV1⟩ := c2 kV
      go_wp2_with fail
      clear pT0 pT1;clear pV0 pV1;refine (eqReply_same rc rv _).mono ?_;rintro e wh2 ⟨rfl,b⟩;replace d := bw_call d b;replace kA := (b.block _ sA).trans kA;replace sA := Nat.lt_of_lt_of_le sA b.size;replace kO := (b.block _ sO).trans kO;replace sO := Nat.lt_of_lt_of_le sO b.size;replace r0 := r0.below (b.mono y0);replace y0 := Nat.le_trans y0 b.size;replace kW := (b.block _ lW).trans kW;replace lW := Nat.lt_of_lt_of_le lW b.size;replace kV := (b.block _ lV).trans kV;replace lV := Nat.lt_of_lt_of_le lV b.size;replace rW := rW.below (b.mono yW);replace yW := Nat.le_trans yW b.size;replace ox := ox.below b;replace kX := (b.block _ sX).trans kX;replace sX := Nat.lt_of_lt_of_le sX b.size;replace kG := (b.block _ lG).trans kG;replace lG := Nat.lt_of_lt_of_le lG b.size;replace kT := (b.block _ lT).trans kT;replace lT := Nat.lt_of_lt_of_le lT b.size;replace oG := oG.below b;clear b
      go_upto_region 13 with fail
      go_wp2_with fail
      have S0 : wh2.drew.cell? ⟨wf.heap.size,0,none⟩ = some (.slice ox1 cs0.length cx1) /\ wh2.drew.cell? ⟨wf.heap.size,1,none⟩ = some (.slice ox2 ps0.length cx2) /\ wh2.drew.cell? ⟨wf.heap.size,2,none⟩ = some (.slice oxb xs.length cxb) /\ wh2.drew.cell? ⟨w.heap.size,0,none⟩ = some (v0a) /\ wh2.drew.cell? ⟨w.heap.size,1,none⟩ = some (v0b) /\ wh2.drew.cell? ⟨w.heap.size,2,none⟩ = some (v0c) := ⟨at_cell kX 0,at_cell kX 1,at_cell kX 2,at_cell kA 0,at_cell kA 1,at_cell kA 2⟩
      have RA : RS wh2.drew.heap.size wh2.drew v0a v0b v0c cs0 ps0 bs0 := (r0.mono y0).below ((Below.refl _ _).drew);have OX := ox.below (w' := wh2.drew) ((Below.refl _ _).drew)
      go_region_held3 (fun w' => w'.cell? ⟨wf.heap.size,0,none⟩ = some (.slice ox1 cs0.length cx1) /\ w'.cell? ⟨wf.heap.size,1,none⟩ = some (.slice ox2 ps0.length cx2) /\ w'.cell? ⟨wf.heap.size,2,none⟩ = some (.slice oxb xs.length cxb) /\ w'.cell? ⟨w.heap.size,0,none⟩ = some (v0a) /\ w'.cell? ⟨w.heap.size,1,none⟩ = some (v0b) /\ w'.cell? ⟨w.heap.size,2,none⟩ = some (v0c))
        ((first | exact S0 | exact S1 | exact S2))
        ((first | (go_at_call 27;refine (toShelf_any v0a v0b v0c cs0 ps0 bs0 _ hbc hbp hbb HR.out RA).mono ?_;rintro e wi ⟨t1,t2,tb,ts,rfl,hpt,ot,bi⟩;have kXi := (bi.block _ (show _ < wh2.heap.size from sX)).trans kX;have kAi := (bi.block _ (show _ < wh2.heap.size from sA)).trans kA;have S1 := And.intro (at_cell kXi 0) (And.intro (at_cell kXi 1) (And.intro (at_cell kXi 2) (And.intro (at_cell kAi 0) (And.intro (at_cell kAi 1) (at_cell kAi 2)))));have OXi := OX.below bi) | (go_at_call 30;refine (eqShelf_same _ _ _ _ _ _ cs0 ps0 xs ts _ (hpt.trans HPX.out.symm) OXi.reads ot.reads).mono ?_;rintro e wj ⟨rfl,bj⟩;have kXj := (bj.block _ (heap_lt kXi)).trans kXi;have kAj := (bj.block _ (heap_lt kAi)).trans kAi;have S2 := And.intro (at_cell kXj 0) (And.intro (at_cell kXj 1) (And.intro (at_cell kXj 2) (And.intro (at_cell kAj 0) (And.intro (at_cell kAj 1) (at_cell kAj 2))))))))
      have b : Below wh2.heap.size wh2 wj := bw_call (bw_call (bw_drew (Below.refl _ _)) bi) bj;clear S0 S1 S2 RA OX OXi kXi kAi kXj kAj hpt ot bi bj;replace d := bw_call d b;replace kA := (b.block _ sA).trans kA;replace sA := Nat.lt_of_lt_of_le sA b.size;replace kO := (b.block _ sO).trans kO;replace sO := Nat.lt_of_lt_of_le sO b.size;replace r0 := r0.below (b.mono y0);replace y0 := Nat.le_trans y0 b.size;replace kW := (b.block _ lW).trans kW;replace lW := Nat.lt_of_lt_of_le lW b.size;replace kV := (b.block _ lV).trans kV;replace lV := Nat.lt_of_lt_of_le lV b.size;replace rW := rW.below (b.mono yW);replace yW := Nat.le_trans yW b.size;replace ox := ox.below b;replace kX := (b.block _ sX).trans kX;replace sX := Nat.lt_of_lt_of_le sX b.size;replace kG := (b.block _ lG).trans kG;replace lG := Nat.lt_of_lt_of_le lG b.size;replace kT := (b.block _ lT).trans kT;replace lT := Nat.lt_of_lt_of_le lT b.size;replace oG := oG.below b;clear b;obtain ⟨pX0,pX1,pX2⟩ := c3 kX
      go_wp2_with fail
      clear pX0 pX1 pX2;clear kX sX;refine (markShelf_any _ _ _ cs0 ps0 xs W8.heap.size W9.heap.size 1 _ (by omega) hbc hbp hEx2 HXR.out ox TX.out.1 TX.out.2.1 TX.out.2.2 (by omega) (by omega)).mono ?_;rintro e wm ⟨rfl,oxm,b⟩;clear ox;clear oxm;replace d := d.trans (b.toBelow (by omega) (by omega));replace kA := (b.block _ sA (by omega)).trans kA;replace sA := Nat.lt_of_lt_of_le sA b.size;replace kO := (b.block _ sO (by omega)).trans kO;replace sO := Nat.lt_of_lt_of_le sO b.size;replace r0 := r0.below (b.toBelow y0 (by omega));replace y0 := Nat.le_trans y0 b.size;replace kW := (b.block _ lW (by omega)).trans kW;replace lW := Nat.lt_of_lt_of_le lW b.size;replace kV := (b.block _ lV (by omega)).trans kV;replace lV := Nat.lt_of_lt_of_le lV b.size;replace rW := rW.below (b.toBelow yW (by omega));replace yW := Nat.le_trans yW b.size;replace kG := (b.block _ lG (by omega)).trans kG;replace lG := Nat.lt_of_lt_of_le lG b.size;replace kT := (b.block _ lT (by omega)).trans kT;replace lT := Nat.lt_of_lt_of_le lT b.size;replace oG := oG.rng b (by omega);clear b;generalize shelfE 1 cs0 ps0 xs = kE at *;have hkE : ¬ kE < 0 := by omega
      obtain ⟨pG0,pG1,pG2⟩ := c3 kG;obtain ⟨pW0,pW1,pW2⟩ := c3 kW
      go_wp2_with fail
      clear pG0 pG1 pG2;clear pW0 pW1 pW2;refine (eqShelf_same _ _ _ _ _ _ D1.cs D1.ps gs ys _ HGY.out oG.reads (rW.mono yW)).mono ?_;rintro e wn1 ⟨rfl,b⟩;replace d := bw_call d b;replace kA := (b.block _ sA).trans kA;replace sA := Nat.lt_of_lt_of_le sA b.size;replace kO := (b.block _ sO).trans kO;replace sO := Nat.lt_of_lt_of_le sO b.size;replace r0 := r0.below (b.mono y0);replace y0 := Nat.le_trans y0 b.size;replace kW := (b.block _ lW).trans kW;replace lW := Nat.lt_of_lt_of_le lW b.size;replace kV := (b.block _ lV).trans kV;replace lV := Nat.lt_of_lt_of_le lV b.size;replace rW := rW.below (b.mono yW);replace yW := Nat.le_trans yW b.size;replace kG := (b.block _ lG).trans kG;replace lG := Nat.lt_of_lt_of_le lG b.size;replace kT := (b.block _ lT).trans kT;replace lT := Nat.lt_of_lt_of_le lT b.size;replace oG := oG.below b;clear b;obtain ⟨pT0,pT1⟩ := c2 kT;obtain ⟨pV0,pV1⟩ := c2 kV
      go_wp2_with fail
      clear pT0 pT1;clear pV0 pV1;refine (eqReply_same rc rv _).mono ?_;rintro e wn2 ⟨rfl,b⟩;replace d := bw_call d b;replace kA := (b.block _ sA).trans kA;replace sA := Nat.lt_of_lt_of_le sA b.size;replace kO := (b.block _ sO).trans kO;replace sO := Nat.lt_of_lt_of_le sO b.size;replace r0 := r0.below (b.mono y0);replace y0 := Nat.le_trans y0 b.size;replace kW := (b.block _ lW).trans kW;replace lW := Nat.lt_of_lt_of_le lW b.size;replace kV := (b.block _ lV).trans kV;replace lV := Nat.lt_of_lt_of_le lV b.size;replace rW := rW.below (b.mono yW);replace yW := Nat.le_trans yW b.size;replace kG := (b.block _ lG).trans kG;replace lG := Nat.lt_of_lt_of_le lG b.size;replace kT := (b.block _ lT).trans kT;replace lT := Nat.lt_of_lt_of_le lT b.size;replace oG := oG.below b;clear b;obtain ⟨pG0,pG1,pG2⟩ := c3 kG
      go_wp2_with fail
      clear pG0 pG1 pG2;have kGn := oG.notBox kG (by decide) (by decide) (by decide);have kTn := oG.notBox kT (by decide) (by decide) (by decide);have hin := oG.ins;refine (markShelfO_any _ _ _ D1.cs D1.ps gs W9.heap.size 1 _ (by omega) hdc2 hdp2 hEg2 HGR2.out oG (by omega)).mono ?_;rintro e wp ⟨rfl,oGm,u⟩;have kG2 := (u.block _ lG kGn).trans kG;have kT2 := (u.block _ lT kTn).trans kT;have b : Rng W9.heap.size wn2.heap.size wn2 wp := only_rng u hin;clear u hin kGn kTn;clear oG;clear kG lG;clear kT lT;replace d := d.trans (b.toBelow (by omega) (by omega));replace kA := (b.block _ sA (by omega)).trans kA;replace sA := Nat.lt_of_lt_of_le sA b.size;replace kO := (b.block _ sO (by omega)).trans kO;replace sO := Nat.lt_of_lt_of_le sO b.size;replace r0 := r0.below (b.toBelow y0 (by omega));replace y0 := Nat.le_trans y0 b.size;replace kW := (b.block _ lW (by omega)).trans kW;replace lW := Nat.lt_of_lt_of_le lW b.size;replace kV := (b.block _ lV (by omega)).trans kV;replace lV := Nat.lt_of_lt_of_le lV b.size;replace rW := rW.below (b.toBelow yW (by omega));replace yW := Nat.le_trans yW b.size;clear b;have lG2 := heap_lt kG2;have lT2 := heap_lt kT2
      obtain ⟨sE,hsE⟩ : ∃ x,shelfE 1 D1.cs D1.ps gs = x := ⟨_,rfl⟩
      have HSE : Hid (shelfE 1 D1.cs D1.ps gs = sE) := hsE;rw [hsE] at hEg0 ⊢;have hsn : ¬ sE < 0 := by omega
      have hsq : (sE != sE) = false := by simp
      clear hsE kT2 lT2;obtain ⟨pG20,pG21,pG22⟩ := c3 kG2
      go_wp2_with fail
      clear pG20 pG21 pG22;refine (heldShelf_any _ _ _ D1.cs D1.ps gs 1 _ (by omega) hdc2 hdp2 hEg2 HGR2.out oGm.reads).mono ?_;rw [HSE.out];rintro e wq ⟨rfl,b⟩;replace d := bw_call d b;replace kA := (b.block _ sA).trans kA;replace sA := Nat.lt_of_lt_of_le sA b.size;replace kO := (b.block _ sO).trans kO;replace sO := Nat.lt_of_lt_of_le sO b.size;replace r0 := r0.below (b.mono y0);replace y0 := Nat.le_trans y0 b.size;replace kW := (b.block _ lW).trans kW;replace lW := Nat.lt_of_lt_of_le lW b.size;replace kV := (b.block _ lV).trans kV;replace lV := Nat.lt_of_lt_of_le lV b.size;replace rW := rW.below (b.mono yW);replace yW := Nat.le_trans yW b.size;replace kG2 := (b.block _ lG2).trans kG2;replace lG2 := Nat.lt_of_lt_of_le lG2 b.size;replace oGm := oGm.below b;clear b
      go_upto_region 27 with fail
      obtain ⟨O,hO0⟩ : ∃ O : Array Value -> World -> Prop,O = fun zs x => ∃ y0 y1 y2 : Value,zs = #[y0,y1,y2] /\ (∃ g1 k1 g2 k2 gb kb,y0 = .slice g1 D1.cs.length k1 /\ y1 = .slice g2 D1.ps.length k2 /\ ∃ ys : List Bk,y2 = .slice gb ys.length kb /\ ys.map Bk.pb = D1.bs /\ OwnS wq.heap.size x y0 y1 y2 D1.cs D1.ps ys) := ⟨_,rfl⟩
      obtain ⟨F,hF0⟩ : ∃ F : Bool -> Nat -> Value -> World -> Prop,F = fun b j v x => match j with
        | 0 => v = .agg #[v0a,v0b,v0c]
        | 1 => b = true \/ ∃ t1 t2 tb ts,v = .agg #[t1,t2,tb] /\ ts.map plainB = bs0.map plainB /\ RS x.heap.size x t1 t2 tb cs0 ps0 ts
        | 2 => v = .agg #[.int .i64 ok1,.string on1,.string oo1,.int .i64 oa1,.int .i64 ov1,.int .i64 oe1]
        | 3 => v = .agg #[.int .i64 ok1,.string on1,.string oo1,.int .i64 oa1,.int .i64 ov1,.int .i64 oe1]
        | 4 => ∃ zs,v = .tuple #[.agg zs,.agg #[.int .i64 rc,.int .i64 rv]] /\ O zs x
        | 5 => ∃ zs,v = .tuple #[.agg zs,.agg #[.int .i64 rc,.int .i64 rv]] /\ O zs x
        | 6 => ∃ zs,v = .agg zs /\ O zs x
        | 7 => v = .agg #[.int .i64 rc,.int .i64 rv]
        | _ => True := ⟨_,rfl⟩
      have hO : Hid _ := hO0;have hF : Hid _ := hF0;clear hO0 hF0
      have OM : ∀ x x' zs,Below x.heap.size x x' -> O zs x -> O zs x' := fun x x' zs b => by
        rw [hO.out];rintro ⟨y0,y1,y2,e,g1,k1,g2,k2,gb,kb,e1,e2,ys,e3,e4,o⟩;exact ⟨y0,y1,y2,e,g1,k1,g2,k2,gb,kb,e1,e2,ys,e3,e4,o.below b⟩
      have FM : ∀ x x',Below x.heap.size x x' -> ∀ b j v,F b j v x -> F b j v x' := fun x x' hb b j v => by
        rw [hF.out]
        match j with
        | 0 => exact id
        | 1 => exact fun h => h.imp id (fun ⟨t1,t2,tb,ts,e,hp,r⟩ => ⟨t1,t2,tb,ts,e,hp,r.upAt (Nat.le_refl _) hb⟩)
        | 2 => exact id
        | 3 => exact id
        | 4 => exact fun ⟨zs,e,o⟩ => ⟨zs,e,OM x x' zs hb o⟩
        | 5 => exact fun ⟨zs,e,o⟩ => ⟨zs,e,OM x x' zs hb o⟩
        | 6 => exact fun ⟨zs,e,o⟩ => ⟨zs,e,OM x x' zs hb o⟩
        | 7 => exact id
        | _ + 8 => exact id
      go_cut [14,15] (fun va vb wx => ∃ (n0 n1 : Nat) (zs : Array Value),va = .pointer (some ⟨n0,0,none⟩) /\ vb = .pointer (some ⟨n1,0,none⟩) /\ wx.heap[n0]? = some (.cells zs 42 (0,0)) /\ O zs wx /\ wx.heap[n1]? = some (.cells #[.int .i64 rc,.int .i64 rv] 30 (0,0)) /\ Below wq.heap.size wq wx /\ wq.heap.size <= n0 /\ wq.heap.size <= n1)
      case first =>
        refine wp_region_inv (I := RInv _ 10 11 (R2 wq 42 30 #[.slice none 0 0,.slice none 0 0,.slice none 0 0] #[.int .i64 0,.int .i64 0] #[.int .i64 rc,.int .i64 rv] F O 8 9) _ wq) (by kernel_rfl) (RInv.start _ 10 11 _ _ wq) ?_ ?_
        · intro L a x i hL hD hi h
          have hi12 : i < 12 := (ready_mem hi).1;have hnot := (ready_mem hi).2.1;have hc : i = 0 \/ i = 1 \/ i = 2 \/ i = 3 \/ i = 4 \/ i = 5 \/ i = 6 \/ i = 7 \/ i = 8 \/ i = 9 \/ i = 10 \/ i = 11 := by omega
          have MONO : ∀ x',Below x.heap.size x x' -> ∀ b c j u,R2 wq 42 30 #[.slice none 0 0,.slice none 0 0,.slice none 0 0] #[.int .i64 0,.int .i64 0] #[.int .i64 rc,.int .i64 rv] F O 8 9 b c j u x -> R2 wq 42 30 #[.slice none 0 0,.slice none 0 0,.slice none 0 0] #[.int .i64 0,.int .i64 0] #[.int .i64 rc,.int .i64 rv] F O 8 9 b c j u x' := fun x' hb b c j u => R2.mono (FM x x' hb) (fun ys => OM x x' ys hb) hb b c j u
          rcases hc with rfl | rfl | rfl | rfl | rfl | rfl | rfl | rfl | rfl | rfl | rfl | rfl
          · refine wpOp_of rfl rfl ?_
            refine op_load 56 2 rfl w.heap.size (h.old 2 (by kernel_rfl)) #[v0a,v0b,v0c] 56 (0,0) ((h.bel.block _ sA).trans kA) _ Tryz.underlying56 rfl (by kernel_rfl) ?_;exact h.val 0 87 _ x (by decide) (by decide) (by kernel_rfl) (of_decide_eq_true (by kernel_rfl)) (by kernel_rfl) (by kernel_rfl) (Below.refl _ _) (by rw [R2.val (by decide) (by decide),hF.out];exact rfl) (fun _ _ _ _ r => r)
          · have r := h.rel 0 87 (ready_dep hi (by kernel_rfl)) (by kernel_rfl)
            rw [R2.val (by decide) (by decide),hF.out] at r;have ea : a.tmps.getD 87 undef = .agg #[v0a,v0b,v0c] := r;clear r;refine wpOp_of rfl rfl ?_;unfold Oper.wp
            go_simp
            go_at_call 27
            refine (toShelf_any _ _ _ cs0 ps0 bs0 _ hbc hbp hbb HR.out (RS.upAt r0 y0 h.bel)).mono ?_;rintro e x1 ⟨t1,t2,tb,ts,rfl,hpt,ot,b⟩;exact h.val 1 88 _ x1 (by decide) (by decide) (by kernel_rfl) (of_decide_eq_true (by kernel_rfl)) (by kernel_rfl) (by kernel_rfl) b (by rw [R2.val (by decide) (by decide),hF.out];exact .inr ⟨t1,t2,tb,ts,rfl,hpt,ot.reads⟩) (MONO x1 b)
          · refine wpOp_of rfl rfl ?_
            refine op_load 57 3 rfl (w.heap.size + 1) (h.old 3 (by kernel_rfl)) #[.int .i64 ok1,.string on1,.string oo1,.int .i64 oa1,.int .i64 ov1,.int .i64 oe1] 57 (0,0) ((h.bel.block _ sO).trans kO) _ Tryz.underlying57 rfl (by kernel_rfl) ?_;exact h.val 2 89 _ x (by decide) (by decide) (by kernel_rfl) (of_decide_eq_true (by kernel_rfl)) (by kernel_rfl) (by kernel_rfl) (Below.refl _ _) (by rw [R2.val (by decide) (by decide),hF.out];exact rfl) (fun _ _ _ _ r => r)
          · have r := h.rel 2 89 (ready_dep hi (by kernel_rfl)) (by kernel_rfl)
            rw [R2.val (by decide) (by decide),hF.out] at r;have ea : a.tmps.getD 89 undef = .agg #[.int .i64 ok1,.string on1,.string oo1,.int .i64 oa1,.int .i64 ov1,.int .i64 oe1] := r;clear r;refine wpOp_of rfl rfl ?_;unfold Oper.wp
            go_simp
            go_at_call 28
            refine (toOp_any ok1 on1 oo1 oa1 ov1 oe1 _).mono ?_;rintro e x1 ⟨rfl,b⟩;exact h.val 3 90 _ x1 (by decide) (by decide) (by kernel_rfl) (of_decide_eq_true (by kernel_rfl)) (by kernel_rfl) (by kernel_rfl) b (by rw [R2.val (by decide) (by decide),hF.out];exact rfl) (MONO x1 b)
          · have r := h.rel 1 88 (ready_dep hi (by kernel_rfl)) (by kernel_rfl)
            rw [hD.not (i := 10) (k := 4) (by kernel_rfl) hnot] at r;rw [R2.val (by decide) (by decide),hF.out] at r;obtain ⟨t1,t2,tb,ts,ea,hpt,rs⟩ := (show (false = true \/ ∃ t1 t2 tb ts,a.tmps.getD 88 undef = .agg #[t1,t2,tb] /\ ts.map plainB = bs0.map plainB /\ RS x.heap.size x t1 t2 tb cs0 ps0 ts) from r).resolve_left (by simp);clear r;have r3 := h.rel 3 90 (ready_dep hi (by kernel_rfl)) (by kernel_rfl);rw [R2.val (by decide) (by decide),hF.out] at r3;have eb : a.tmps.getD 90 undef = .agg #[.int .i64 ok1,.string on1,.string oo1,.int .i64 oa1,.int .i64 ov1,.int .i64 oe1] := r3;clear r3;refine wpOp_of rfl rfl ?_;unfold Oper.wp
            go_simp
            go_at_call 29
            refine (implDid_any _ _ _ cs0 ps0 ts ok1 on1 oo1 oa1 ov1 oe1 _ ad (hvs.below (bw_call d h.bel)) (plain_all (fun nm _ => nm.size <= maxLen) hpt HN.out) (plain_all (fun _ rs => FitRuns rs) hpt HF.out) u1 x1 fk1 fa1 fv1 fe1 rs).mono ?_;rw [pb_of_plain hpt,HD.out];simp only;rintro e x2 ⟨g1,g2,gb,ys,rfl,oY,hmY,b⟩;obtain ⟨z1,f1,z2,f2,zb,fb,hz1,hz2,hzb⟩ := oY.forms;have ow : OwnS wq.heap.size x2 g1 g2 gb D1.cs D1.ps ys := oY.mono h.bel.size;have hOO : O #[g1,g2,gb] x2 := by rw [hO.out];exact ⟨g1,g2,gb,rfl,z1,f1,z2,f2,zb,fb,hz1,hz2,ys,hzb,hmY,ow⟩
            exact h.val 4 91 _ x2 (by decide) (by decide) (by kernel_rfl) (of_decide_eq_true (by kernel_rfl)) (by kernel_rfl) (by kernel_rfl) b (by rw [R2.val (by decide) (by decide),hF.out];exact ⟨_,rfl,hOO⟩) (MONO x2 b)
          · have r := h.rel 4 91 (ready_dep hi (by kernel_rfl)) (by kernel_rfl)
            rw [R2.val (by decide) (by decide),hF.out] at r;refine wpOp_of rfl rfl (op_move 91 rfl ?_);exact h.val 5 86 _ x (by decide) (by decide) (by kernel_rfl) (of_decide_eq_true (by kernel_rfl)) (by kernel_rfl) (by kernel_rfl) (Below.refl _ _) (by rw [R2.val (by decide) (by decide),hF.out];exact r) (fun _ _ _ _ r => r)
          · have r := h.rel 5 86 (ready_dep hi (by kernel_rfl)) (by kernel_rfl)
            rw [R2.val (by decide) (by decide),hF.out] at r
            obtain ⟨zs,ea,hOO⟩ := (show ∃ zs,a.tmps.getD 86 undef = .tuple #[.agg zs,.agg #[.int .i64 rc,.int .i64 rv]] /\ O zs x from r)
            clear r;refine wpOp_of rfl rfl ?_;unfold Oper.wp
            go_simp
            exact h.val 6 92 _ x (by decide) (by decide) (by kernel_rfl) (of_decide_eq_true (by kernel_rfl)) (by kernel_rfl) (by kernel_rfl) (Below.refl _ _) (by rw [R2.val (by decide) (by decide),hF.out];exact ⟨zs,rfl,hOO⟩) (fun _ _ _ _ r => r)
          · have r := h.rel 5 86 (ready_dep hi (by kernel_rfl)) (by kernel_rfl)
            rw [R2.val (by decide) (by decide),hF.out] at r
            obtain ⟨zs,ea,hOO⟩ := (show ∃ zs,a.tmps.getD 86 undef = .tuple #[.agg zs,.agg #[.int .i64 rc,.int .i64 rv]] /\ O zs x from r)
            clear r;refine wpOp_of rfl rfl ?_;unfold Oper.wp
            go_simp
            exact h.val 7 93 _ x (by decide) (by decide) (by kernel_rfl) (of_decide_eq_true (by kernel_rfl)) (by kernel_rfl) (by kernel_rfl) (Below.refl _ _) (by rw [R2.val (by decide) (by decide),hF.out];exact rfl) (fun _ _ _ _ r => r)
          · refine wpOp_of rfl rfl ?_
            unfold Oper.wp
            go_simp
            have hn := hD.not (i := 10) (k := 8) (by kernel_rfl) hnot;have b : Below x.heap.size x (x.alloc (.cells #[.slice none 0 0,.slice none 0 0,.slice none 0 0] 42)) := bw_alloc (Below.refl _ _);exact h.val 8 14 _ _ (by decide) (by decide) (by kernel_rfl) (of_decide_eq_true (by kernel_rfl)) (by kernel_rfl) (by kernel_rfl) b (by unfold R2;rw [if_pos rfl,hn];exact ⟨_,rfl,h.bel.size,(fun e => by cases e),fun _ => heap_alloc_new _ _⟩) (MONO _ b)
          · refine wpOp_of rfl rfl ?_
            unfold Oper.wp
            go_simp
            have hn := hD.not (i := 11) (k := 9) (by kernel_rfl) hnot;have b : Below x.heap.size x (x.alloc (.cells #[.int .i64 0,.int .i64 0] 30)) := bw_alloc (Below.refl _ _);exact h.val 9 15 _ _ (by decide) (by decide) (by kernel_rfl) (of_decide_eq_true (by kernel_rfl)) (by kernel_rfl) (by kernel_rfl) b (by unfold R2;rw [if_neg (by decide),if_pos rfl,hn];exact ⟨_,rfl,h.bel.size,(fun e => by cases e),fun _ => heap_alloc_new _ _⟩) (MONO _ b)
          · obtain ⟨n,e6,hwn,-,h4⟩ := R2.box (h.rel 8 14 (ready_dep hi (by kernel_rfl)) (by kernel_rfl))
            have hl10 := not_done hnot;rw [hl10] at h4;have k6 := h4 rfl;have r := h.rel 6 92 (ready_dep hi (by kernel_rfl)) (by kernel_rfl);rw [R2.val (by decide) (by decide),hF.out] at r
            obtain ⟨zs,e32,hOO⟩ := (show ∃ zs,a.tmps.getD 92 undef = .agg zs /\ O zs x from r)
            clear r h4
            have OU : ∀ zs' ys',O zs' x -> O zs' (x.setRow n ys') := fun zs' ys' => by
              rw [hO.out];rintro ⟨y0,y1,y2,e,g1,k1,g2,k2,gb,kb,e1,e2,ys,e3,e4,o⟩;exact ⟨y0,y1,y2,e,g1,k1,g2,k2,gb,kb,e1,e2,ys,e3,e4,o.box k6 (setRow_upto x n ys') (by decide) (by decide) (by decide)⟩
            have FU : ∀ j v,F false j v x -> F true j v (x.setRow n zs) := fun j v => by
              rw [hF.out]
              match j with
              | 0 => exact id
              | 1 => exact fun _ => .inl rfl
              | 2 => exact id
              | 3 => exact id
              | 4 => exact fun ⟨zs',e,o⟩ => ⟨zs',e,OU zs' zs o⟩
              | 5 => exact fun ⟨zs',e,o⟩ => ⟨zs',e,OU zs' zs o⟩
              | 6 => exact fun ⟨zs',e,o⟩ => ⟨zs',e,OU zs' zs o⟩
              | 7 => exact id
              | _ + 8 => exact id
            have hO2 := OU zs zs hOO
            have hfc : zs.size = 3 /\ zs.all (·.oneCell') = true := by
              rw [hO.out] at hOO;obtain ⟨y0,y1,y2,e,g1,k1,g2,k2,gb,kb,e1,e2,ys,e3,e4,o⟩ := hOO;subst e e1 e2 e3;exact ⟨rfl,by simp [Value.oneCell']⟩
            refine wpOp_of rfl rfl ?_;refine op_store 42 14 92 rfl rfl n e6 zs e32 #[.slice none 0 0,.slice none 0 0,.slice none 0 0] 42 k6 (by rw [hfc.1];kernel_rfl) (by rw [hfc.1];rfl) hfc.2 ?_;exact h.storeS (by rw [hL];exact of_decide_eq_true (by kernel_rfl)) hl10 (by decide) (by kernel_rfl) (by kernel_rfl) (by decide) e6 k6 hwn (by decide) hO2 FU
          · obtain ⟨n,e7,hwn,-,h4⟩ := R2.box2 (by decide) (h.rel 9 15 (ready_dep hi (by kernel_rfl)) (by kernel_rfl))
            have hl11 := not_done hnot;rw [hl11] at h4;have k7 := h4 rfl;have r := h.rel 7 93 (ready_dep hi (by kernel_rfl)) (by kernel_rfl);rw [R2.val (by decide) (by decide),hF.out] at r;have e33 : a.tmps.getD 93 undef = .agg #[.int .i64 rc,.int .i64 rv] := r;have hl10 : L.getD 10 false = true := ready_dep hi (by kernel_rfl);clear r h4
            have OU : ∀ zs',O zs' x -> O zs' (x.setRow n #[.int .i64 rc,.int .i64 rv]) := fun zs' => by
              rw [hO.out];rintro ⟨y0,y1,y2,e,g1,k1,g2,k2,gb,kb,e1,e2,ys,e3,e4,o⟩;exact ⟨y0,y1,y2,e,g1,k1,g2,k2,gb,kb,e1,e2,ys,e3,e4,o.box k7 (setRow_upto x n #[.int .i64 rc,.int .i64 rv]) (by decide) (by decide) (by decide)⟩
            have FU : ∀ j v,F true j v x -> F true j v (x.setRow n #[.int .i64 rc,.int .i64 rv]) := fun j v => by
              rw [hF.out]
              match j with
              | 0 => exact id
              | 1 => exact fun _ => .inl rfl
              | 2 => exact id
              | 3 => exact id
              | 4 => exact fun ⟨zs',e,o⟩ => ⟨zs',e,OU zs' o⟩
              | 5 => exact fun ⟨zs',e,o⟩ => ⟨zs',e,OU zs' o⟩
              | 6 => exact fun ⟨zs',e,o⟩ => ⟨zs',e,OU zs' o⟩
              | 7 => exact id
              | _ + 8 => exact id
            refine wpOp_of rfl rfl ?_;refine op_store 30 15 93 rfl rfl n e7 #[.int .i64 rc,.int .i64 rv] e33 #[.int .i64 0,.int .i64 0] 30 k7 (by kernel_rfl) rfl (by simp [Value.oneCell']) ?_;exact h.storeR (by rw [hL];exact of_decide_eq_true (by kernel_rfl)) hl11 hl10 (by decide) (by kernel_rfl) (by kernel_rfl) (by decide) e7 k7 hwn (by decide) OU FU
        · intro L a x hL hD hr h
          have hall := all_done hL hr (by kernel_rfl);obtain ⟨n0,e6,hw0,h3,-⟩ := R2.box (h.rel 8 14 (hall 8 (of_decide_eq_true (by kernel_rfl))) (by kernel_rfl));obtain ⟨n1,e7,hw1,h4,-⟩ := R2.box2 (by decide) (h.rel 9 15 (hall 9 (of_decide_eq_true (by kernel_rfl))) (by kernel_rfl));rw [hall 10 (of_decide_eq_true (by kernel_rfl))] at h3;rw [hall 11 (of_decide_eq_true (by kernel_rfl))] at h4;obtain ⟨zs,k0,hOO⟩ := h3 rfl;have k1 := h4 rfl;have hb := h.bel;have hfr := h.frame [14,15,86,87,88,89,90,91,92,93] (by kernel_rfl)
          obtain ⟨f,hf⟩ : ∃ f : Nat -> Value,(fun s => a.tmps.getD s undef) = f := ⟨_,rfl⟩
          rw [hf] at hfr;have f6 : f 14 = .pointer (some ⟨n0,0,none⟩) := by rw [<- hf];exact e6
          have f7 : f 15 = .pointer (some ⟨n1,0,none⟩) := by rw [<- hf];exact e7
          clear hf e6 e7 h h3 h4 hall hr hD hL;subst hfr;simp only [Act.puts,f6,f7,Act.put,List.setIfInBounds_toArray,List.set_cons_succ,List.set_cons_zero];generalize f 86 = ux86;generalize f 87 = ux87;generalize f 88 = ux88;generalize f 89 = ux89;generalize f 90 = ux90;generalize f 91 = ux91;generalize f 92 = ux92;generalize f 93 = ux93;clear f6 f7 f
          show Exit.then _ _ _ _ _
          go_wp2_with fail
          go_meet
          exact ⟨n0,n1,zs,rfl,rfl,k0,hOO,k1,hb,hw0,hw1⟩
      case rest =>
        obtain ⟨nH,nI,zs,rfl,rfl,kH,hOO,kI,b,hnH,hnI⟩ := hcut;rw [hO.out] at hOO;obtain ⟨i0,i1,i2,rfl,a1,q1,a2,q2',ab,qb,rfl,rfl,hs,rfl,hmH,oH⟩ := hOO;clear hO hF OM FM
        rename World => W11
        have lH := heap_lt kH;have lI := heap_lt kI;replace d := bw_call d b;replace kA := (b.block _ sA).trans kA;replace sA := Nat.lt_of_lt_of_le sA b.size;replace kO := (b.block _ sO).trans kO;replace sO := Nat.lt_of_lt_of_le sO b.size;replace r0 := r0.below (b.mono y0);replace y0 := Nat.le_trans y0 b.size;replace kW := (b.block _ lW).trans kW;replace lW := Nat.lt_of_lt_of_le lW b.size;replace kV := (b.block _ lV).trans kV;replace lV := Nat.lt_of_lt_of_le lV b.size;replace rW := rW.below (b.mono yW);replace yW := Nat.le_trans yW b.size;replace kG2 := (b.block _ lG2).trans kG2;replace lG2 := Nat.lt_of_lt_of_le lG2 b.size;replace oGm := oGm.below b;clear b;have HHY : Hid (ys.map plainB = hs.map plainB) := plain_of_pb (hmY.trans hmH.symm);clear hmH;obtain ⟨pH0,pH1,pH2⟩ := c3 kH;obtain ⟨pW0,pW1,pW2⟩ := c3 kW
        go_wp2_with fail
        clear pH0 pH1 pH2;clear pW0 pW1 pW2;refine (eqShelf_same _ _ _ _ _ _ D1.cs D1.ps hs ys _ HHY.out oH.reads (rW.mono yW)).mono ?_;rintro e ws ⟨rfl,b⟩;replace d := bw_call d b;replace kA := (b.block _ sA).trans kA;replace sA := Nat.lt_of_lt_of_le sA b.size;replace kO := (b.block _ sO).trans kO;replace sO := Nat.lt_of_lt_of_le sO b.size;replace r0 := r0.below (b.mono y0);replace y0 := Nat.le_trans y0 b.size;replace kW := (b.block _ lW).trans kW;replace lW := Nat.lt_of_lt_of_le lW b.size;replace kV := (b.block _ lV).trans kV;replace lV := Nat.lt_of_lt_of_le lV b.size;replace rW := rW.below (b.mono yW);replace yW := Nat.le_trans yW b.size;replace kG2 := (b.block _ lG2).trans kG2;replace lG2 := Nat.lt_of_lt_of_le lG2 b.size;replace oGm := oGm.below b;replace kH := (b.block _ lH).trans kH;replace lH := Nat.lt_of_lt_of_le lH b.size;replace kI := (b.block _ lI).trans kI;replace lI := Nat.lt_of_lt_of_le lI b.size;replace oH := oH.below b;clear b;obtain ⟨pI0,pI1⟩ := c2 kI;obtain ⟨pV0,pV1⟩ := c2 kV
        go_wp2_with fail
        clear pI0 pI1;clear pV0 pV1;refine (eqReply_same rc rv _).mono ?_;rintro e wt ⟨rfl,b⟩;replace d := bw_call d b;replace kA := (b.block _ sA).trans kA;replace sA := Nat.lt_of_lt_of_le sA b.size;replace kO := (b.block _ sO).trans kO;replace sO := Nat.lt_of_lt_of_le sO b.size;replace r0 := r0.below (b.mono y0);replace y0 := Nat.le_trans y0 b.size;replace kW := (b.block _ lW).trans kW;replace lW := Nat.lt_of_lt_of_le lW b.size;replace kV := (b.block _ lV).trans kV;replace lV := Nat.lt_of_lt_of_le lV b.size;replace rW := rW.below (b.mono yW);replace yW := Nat.le_trans yW b.size;replace kG2 := (b.block _ lG2).trans kG2;replace lG2 := Nat.lt_of_lt_of_le lG2 b.size;replace oGm := oGm.below b;replace kH := (b.block _ lH).trans kH;replace lH := Nat.lt_of_lt_of_le lH b.size;replace kI := (b.block _ lI).trans kI;replace lI := Nat.lt_of_lt_of_le lI b.size;replace oH := oH.below b;clear b;obtain ⟨pG20,pG21,pG22⟩ := c3 kG2
        go_wp2_with fail
        clear pG20 pG21 pG22;refine (heldShelf_any _ _ _ D1.cs D1.ps gs 1 _ (by omega) hdc2 hdp2 hEg2 HGR2.out oGm.reads).mono ?_;rw [HSE.out];rintro e wu ⟨rfl,b⟩;replace d := bw_call d b;replace kA := (b.block _ sA).trans kA;replace sA := Nat.lt_of_lt_of_le sA b.size;replace kO := (b.block _ sO).trans kO;replace sO := Nat.lt_of_lt_of_le sO b.size;replace r0 := r0.below (b.mono y0);replace y0 := Nat.le_trans y0 b.size;replace kW := (b.block _ lW).trans kW;replace lW := Nat.lt_of_lt_of_le lW b.size;replace kV := (b.block _ lV).trans kV;replace lV := Nat.lt_of_lt_of_le lV b.size;replace rW := rW.below (b.mono yW);replace yW := Nat.le_trans yW b.size;replace kG2 := (b.block _ lG2).trans kG2;replace lG2 := Nat.lt_of_lt_of_le lG2 b.size;replace oGm := oGm.below b;replace kH := (b.block _ lH).trans kH;replace lH := Nat.lt_of_lt_of_le lH b.size;replace kI := (b.block _ lI).trans kI;replace lI := Nat.lt_of_lt_of_le lI b.size;replace oH := oH.below b;clear b
        go_wp2_with fail
        go_ret;exact ⟨rfl,d⟩
set_option maxRecDepth 100000 in
theorem lifted (os : Os) (started : os.Started) (H : Type) (enc : TypeId × Value -> H) :
    ReturnsInHanded {} Tryz.checked os 6 .any (fun w args => (Rows.fnExactDidSpec.pre enc Tryz.prog Tryz.f6 Rows.fnExactDidRow.domain false w args /\ laidMetH Tryz.prog Rows.fnExactDidRow.laid w) /\ sizedMet enc Tryz.prog Tryz.f6 (OpenSpec.ofChange Rows.fnExactDidSpec) false w args) (Rows.fnExactDidSpec.post enc Tryz.prog Tryz.f6 false true false false) := by
  refine returnsInHanded_of_change_and (C := Tryz.checked) (X := fun w _ => laidMetH Tryz.prog Rows.fnExactDidRow.laid w) (fun _ _ _ hh h => h.of_heap hh) own started (by kernel_rfl) Tryz.func6
    (ChangeSpec.witness_at (enc := enc) (C := Tryz.checked) (os := os) (X := fun w _ => laidMetH Tryz.prog Rows.fnExactDidRow.laid w) false (laidWorld os) #[.agg #[.slice none 0 0,.slice none 0 0,.slice none 0 0],.agg #[.int .i64 0,.string ByteArray.empty,.string ByteArray.empty,.int .i64 0,.int .i64 0,.int .i64 0]] 8 rfl (by kernel_rfl) (by kernel_rfl) (by kernel_rfl) (by kernel_rfl) (by kernel_rfl) (show laidMetH Tryz.prog laidAll _ from laid_ten os _)) ?_
  intro W base args ds gs before hval0 hW _ _ hL _;have hval : ∀ (j : Nat) t v,Tryz.f6.params[j]? = some t -> args[j]? = some v -> Value.okWide Tryz.prog W .any base t v := hval0;have hW' := hW;obtain ⟨p,q,hA0,hV,rfl,hfz,hnd⟩ := hW;have hA : DataW.TrodAll enc Tryz.prog W 0 (fun _ => true) true Tryz.f6.params.toList args.toList ds p := hA0;have hVN : DataW.TrodVars enc Tryz.prog W (fun _ => true) ["loop.example/g00372/impl.errWrongShelf","loop.example/g00372/impl.errWrongOp","loop.example/g00372/impl.errNoBook","loop.example/g00372/impl.errBookThere","loop.example/g00372/impl.errFenced","loop.example/g00372/impl.errFixed","loop.example/g00372/impl.errRange","loop.example/g00372/impl.errManyBooks","loop.example/g00372/impl.errWorn","loop.example/g00372/impl.errNoPage"] gs q := hV;have hvl := vars_length hVN;rw [Tryz.params6] at hA hval;obtain ⟨v0,vs0,d0,ds0,p0,q0,hargs,rfl,rfl,h0,rr0⟩ := trodAll_cons hA;obtain ⟨v1,vs1,d1,ds1,p1,q1,rfl,rfl,rfl,h1,rr1⟩ := trodAll_cons rr0;obtain ⟨rfl,rfl,rfl⟩ := trodAll_nil rr1;obtain rfl : args = #[v0,v1] := by cases args;simp_all
  have kk0 := h0;have lt0 : ∀ x ∈ p0,x.block < W.heap.size := by obtain ⟨fuel,hfuel⟩ := kk0;exact DataW.trod_lt fuel _ _ _ hfuel
  obtain ⟨v0a,v0b,v0c,cs0,ps0,bs0,rfl,w0,z0⟩ := open_shelf (hval 0 56 v0 rfl rfl) h0;have kk1 := h1;have lt1 : ∀ x ∈ p1,x.block < W.heap.size := by obtain ⟨fuel,hfuel⟩ := kk1;exact DataW.trod_lt fuel _ _ _ hfuel
  obtain ⟨ok1,on1,oo1,oa1,ov1,oe1,rfl,u1,x1,fk1,fa1,fv1,fe1⟩ := open_op (hval 1 57 v1 rfl rfl) h1;clear hA0 hval0;refine (walk v0a v0b v0c cs0 ps0 bs0 ok1 on1 oo1 oa1 ov1 oe1 W w0 z0 u1 x1 fk1 fa1 fv1 fe1 (adOf W) (vars_ten (show laidMetH Tryz.prog laidAll W from hL))).mono fun e W' ⟨he,bel⟩ => ?_
  subst he
  match gs,hvl,hVN with
  | [g1,g2,g3,g4,g5,g6,g7,g8,g9,g10],_,hVN =>
    exact ⟨_,rfl,_,_,_,[],_,q,hW',trodAll_mk1 (shut_bool Tryz.underlying4 _),(trodAll_cons_mk (Below.trod laidOut (by kernel_rfl) (of_decide_eq_true (by kernel_rfl)) kk0 bel lt0) (trodAll_cons_mk (Below.trod laidOut (by kernel_rfl) (of_decide_eq_true (by kernel_rfl)) kk1 bel lt1) trodAll_mk0)),Below.trodVars laidOut bel (by kernel_rfl) hVN,bel.frame _,fun h => by cases h⟩
theorem over : Rows.fnExactDidRow.holds Tryz.pinned (OpenSpec.ofChange Rows.fnExactDidSpec) :=
  OpenClaim.holds_of_wide 6 Tryz.f6 rfl rfl rfl rfl rfl rfl rfl ⟨rfl,rfl,rfl,rfl,rfl⟩ rfl rfl rfl rfl rfl hfn Tryz.func6 closed hinst hwrap
    (fun os started H enc _ => lifted os started H enc)
theorem proved : Rows.FnExactDidCardSaid :=
  Claim7.holds_tied_plain_at .later [] [.handle,.sentinel,.sentinel,.sentinel,.sentinel,.sentinel,.sentinel,.sentinel,.sentinel,.sentinel,.sentinel] true (true,"fbb5437293b861e008a33db5ba199a23dcadf5ef55dd8b25bde528d5c500072c") true over (fun _ h => by cases h) byText (fun _ h => by cases h) fnExactDid_row_tie rfl ⟨rfl,rfl⟩ mainIs rfl
    (fun f fn hf hfn' => by
      obtain rfl : f = 6 := (Option.some.inj (hfn.symm.trans hf)).symm;obtain rfl : fn = Tryz.f6 := (Option.some.inj (Tryz.func6.symm.trans hfn')).symm
      exact ⟨looks,fun j t ht => by
        rw [Tryz.params6] at ht;have hm : t ∈ [56,57] := by have h := Array.mem_of_getElem? ht;simpa using h
        simp only [List.mem_cons,List.mem_nil_iff,or_false] at hm;rcases hm with rfl | rfl
        · exact stand56
        · exact stand57⟩)
    goes
#print axioms proved
end Go.Proofs.YtmnhnhjefocicaaGreatDoor.fnExactDid
