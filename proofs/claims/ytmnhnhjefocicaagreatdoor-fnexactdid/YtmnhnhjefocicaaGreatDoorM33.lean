import Derived.Test.YtmnhnhjefocicaaGreatDoorM06
import Derived.Test.YtmnhnhjefocicaaGreatDoorM32
namespace Go.Proofs.YtmnhnhjefocicaaGreatDoor
open Go.RowKit
set_option linter.unusedVariables false
def joinStep (acc : List (Int × Int × Int)) (x : Int × Int × Int) : List (Int × Int × Int) :=
  match acc.getLast? with
  | none => acc ++ [x]
  | some r => if r.1 + r.2.1 = x.1 /\ r.2.2 + r.2.1 = x.2.2 then acc.dropLast ++ [(r.1,r.2.1 + x.2.1,r.2.2)] else acc ++ [x]
def joinRuns (rs : List (Int × Int × Int)) : List (Int × Int × Int) := rs.foldl joinStep []
def Single (r : Int × Int × Int) : Prop := r.2.1 = 1 /\ 0 <= r.1 /\ r.1 <= 15 /\ 0 <= r.2.2 /\ r.2.2 <= 23
def Within (r : Int × Int × Int) : Prop := 0 <= r.1 /\ 1 <= r.2.1 /\ r.1 + r.2.1 <= 16 /\ 0 <= r.2.2 /\ r.2.2 + r.2.1 <= 24
theorem join_nil (x : Int × Int × Int) : joinStep [] x = [] ++ [x] := rfl
theorem join_on (pre : List (Int × Int × Int)) (f c p f' c' p' : Int) (h : f + c = f' /\ p + c = p') : joinStep (pre ++ [(f,c,p)]) (f',c',p') = pre ++ [(f,c + c',p)] := by
  unfold joinStep;rw [List.getLast?_concat];simp only;rw [if_pos h,List.dropLast_concat]
theorem join_new (pre : List (Int × Int × Int)) (f c p f' c' p' : Int) (h : ¬ (f + c = f' /\ p + c = p')) : joinStep (pre ++ [(f,c,p)]) (f',c',p') = (pre ++ [(f,c,p)]) ++ [(f',c',p')] := by
  unfold joinStep;rw [List.getLast?_concat];simp only;rw [if_neg h]
theorem join_within (acc : List (Int × Int × Int)) (x : Int × Int × Int) (hx : Single x) (h : ∀ r ∈ acc,Within r) : ∀ r ∈ joinStep acc x,Within r := by
  obtain ⟨f',c',p'⟩ := x;have hw : Within (f',c',p') := by obtain ⟨h1,h2,h3,h4,h5⟩ := hx;simp only at h1 h2 h3 h4 h5;unfold Within;simp only;omega
  by_cases hA : acc = []
  · subst hA
    rw [join_nil];intro r hr;simp at hr;subst hr;exact hw
  · obtain ⟨pre,⟨f,c,p⟩,rfl⟩ := snoc_of acc hA
    by_cases hon : f + c = f' /\ p + c = p'
    · rw [join_on _ _ _ _ _ _ _ hon]
      intro r hr;rcases List.mem_append.1 hr with hr | hr
      · exact h r (List.mem_append_left _ hr)
      · simp at hr
        subst hr;have h0 := h (f,c,p) (by simp);obtain ⟨h1,h2,h3,h4,h5⟩ := hx;obtain ⟨q1,q2,q3,q4,q5⟩ := h0;simp only at h1 h2 h3 h4 h5 q1 q2 q3 q4 q5;unfold Within;simp only
        omega
    · rw [join_new _ _ _ _ _ _ _ hon]
      intro r hr;rcases List.mem_append.1 hr with hr | hr
      · exact h r hr
      · simp at hr
        subst hr;exact hw
theorem join_len (acc : List (Int × Int × Int)) (x : Int × Int × Int) : (joinStep acc x).length <= acc.length + 1 := by
  unfold joinStep
  cases acc.getLast? with
  | none => simp
  | some r => simp only;split <;> simp <;> omega
theorem joinRuns_within (rs : List (Int × Int × Int)) (h : ∀ r ∈ rs,Single r) (q : Nat) : ∀ r ∈ joinRuns (rs.take q),Within r := by
  induction q with
  | zero => intro r hr;simp [joinRuns] at hr
  | succ q ih =>
    by_cases hq : q < rs.length
    · rw [joinRuns,List.take_succ_eq_append_getElem hq,List.foldl_append]
      exact join_within _ _ (h _ (List.getElem_mem hq)) ih
    · rw [List.take_of_length_le (by omega)]
      rw [List.take_of_length_le (by omega)] at ih;exact ih
theorem joinRuns_len (rs : List (Int × Int × Int)) (q : Nat) : (joinRuns (rs.take q)).length <= q := by
  induction q with
  | zero => simp [joinRuns]
  | succ q ih =>
    by_cases hq : q < rs.length
    · rw [joinRuns,List.take_succ_eq_append_getElem hq,List.foldl_append]
      have := join_len (joinRuns (rs.take q)) rs[q];simp only [List.foldl_cons,List.foldl_nil];unfold joinRuns at this ih
      omega
    · rw [List.take_of_length_le (by omega)] at ih ⊢
      omega
theorem joinRuns_step (rs : List (Int × Int × Int)) (q : Nat) (hq : q < rs.length) : joinRuns (rs.take (q + 1)) = joinStep (joinRuns (rs.take q)) rs[q] := by
  rw [joinRuns,List.take_succ_eq_append_getElem hq,List.foldl_append];rfl
theorem run_behind {w3 : World} {acc : List (Int × Int × Int)} {x : Int × Int × Int} {v' : Value} {base n : Nat} (hn : n = acc.length) (h : w3.ownsRow base 149 3 v' (n + 1) (acc.flatMap runC ++ runC x)) (hnil : v' ≠ .slice none 0 0) :
    ∃ g' cp',v' = .slice (some ⟨g',0,none⟩) (acc ++ [x]).length cp' /\ w3.ownsRow base 149 3 (.slice (some ⟨g',0,none⟩) (acc ++ [x]).length cp') (acc ++ [x]).length ((acc ++ [x]).flatMap runC) := by
  subst hn;have own3 : w3.ownsRow base 149 3 v' (acc ++ [x]).length ((acc ++ [x]).flatMap runC) := by simpa using h
  rcases own3.2 with ⟨e,_⟩ | ⟨g',cp',cur,e,h2⟩
  · exact absurd e hnil
  · subst e
    exact ⟨g',cp',rfl,own3⟩
theorem put_run {w : World} {base g cp : Nat} {pre : List (Int × Int × Int)} {f c p c2 : Int} (h : w.ownsRow base 149 3 (.slice (some ⟨g,0,none⟩) (pre ++ [(f,c,p)]).length cp) (pre ++ [(f,c,p)]).length ((pre ++ [(f,c,p)]).flatMap runC)) :
    (((w.setCell ⟨g,pre.length * 3,none⟩ (.int .i64 f)).setCell ⟨g,pre.length * 3 + 1,none⟩ (.int .i64 c2)).setCell ⟨g,pre.length * 3 + 2,none⟩ (.int .i64 p)).ownsRow base 149 3 (.slice (some ⟨g,0,none⟩) (pre ++ [(f,c2,p)]).length cp) (pre ++ [(f,c2,p)]).length ((pre ++ [(f,c2,p)]).flatMap runC) := by
  have e : ∀ x y : Int × Int × Int,(pre ++ [x]).set pre.length y = pre ++ [y] := fun x y => by simp
  have el : ∀ x y : Int × Int × Int,(pre ++ [x]).length = (pre ++ [y]).length := fun x y => by simp
  have h1 := own_put runC_len h pre.length 0 (f,c,p) (f,c,p) (.int .i64 f) (by simp) (by omega) rfl;rw [e,Nat.add_zero] at h1;have h2 := own_put runC_len h1 pre.length 1 (f,c,p) (f,c2,p) (.int .i64 c2) (by simp) (by omega) rfl;rw [e] at h2;have h3 := own_put runC_len h2 pre.length 2 (f,c2,p) (f,c2,p) (.int .i64 p) (by simp) (by omega) rfl;rw [e] at h3
  rwa [el (f,c2,p) (f,c,p)] at h3 ⊢
set_option maxRecDepth 100000 in
set_option maxHeartbeats 6400000 in
theorem joined_any (v : Value) (rs : List (Int × Int × Int)) (w : World) (hs : ∀ r ∈ rs,Single r) (hl : rs.length <= 16) (r : ReadsR 3 runC w.heap.size w v rs) :
    Calls Tryz.prog 243 #[v] w fun e w' => ∃ v' : Value,e = .returned v' /\ w'.ownsRow w.heap.size 149 3 v' (joinRuns rs).length ((joinRuns rs).flatMap runC) /\ v' ≠ .slice none 0 0 /\ Below w.heap.size w w' := by
  obtain ⟨i0,hi,hz0,hz1,hz2⟩ := info_parts Tryz.infoRun;obtain ⟨o,cap,rfl,hm,hc,-⟩ := r;have HC : Hid _ := three_cells hc;have HS : Hid _ := hs;have HW : Hid (∀ q,∀ r ∈ joinRuns (rs.take q),Within r) := joinRuns_within rs hs;have HJL : Hid (∀ q,(joinRuns (rs.take q)).length <= q) := joinRuns_len rs;have own0 : (w.alloc (.cells #[] 149)).ownsRow w.heap.size 149 3 (.slice (some ⟨w.heap.size,0,none⟩) 0 0) 0 [] := World.ownsRow_lit w #[] 0 (Nat.le_refl _) (Nat.zero_le _) rfl;have d0 : Below w.heap.size w (w.alloc (.cells #[] 149)) := bw_alloc (Below.refl _ _);clear hc hm hs
  go_enter Tryz.func243,Tryz.ntmps243
  go_wp2_with fail
  go_loopw [3,10] (fun q i wr => ∃ (k g cp : Nat) (acc : List (Int × Int × Int)),k <= rs.length /\ i = .int .i64 k /\ q = .slice (some ⟨g,0,none⟩) acc.length cp /\ acc = joinRuns (rs.take k) /\ wr.ownsRow w.heap.size 149 3 (.slice (some ⟨g,0,none⟩) acc.length cp) acc.length (acc.flatMap runC) /\ Below w.heap.size w wr) (fun _ i _ => rs.length - (intOf i).toNat)
  case atStart => exact ⟨0,_,_,[],Nat.zero_le _,rfl,rfl,rfl,own0,d0⟩
  case round =>
    clear own0 d0;obtain ⟨k,g,cp,acc,hk,rfl,rfl,hacc,own,hb⟩ := hrel;by_cases hlt : k < rs.length
    · obtain ⟨g1,off,rfl,hg1,a0,a1,a2⟩ := HC.out k hlt
      have hsk := HS.out rs[k] (List.getElem_mem hlt);have hwi := HW.out k;rw [<- hacc] at hwi;have HNX : Hid (joinRuns (rs.take (k + 1)) = joinStep acc rs[k]) := by rw [Hid,joinRuns_step rs k hlt,hacc]
      have hfew : acc.length <= k := by rw [hacc];exact HJL.out k
      replace a0 := (hb.cell (p := ⟨g1,off + k * 3,none⟩) hg1).trans a0;replace a1 := (hb.cell (p := ⟨g1,off + k * 3 + 1,none⟩) hg1).trans a1;replace a2 := (hb.cell (p := ⟨g1,off + k * 3 + 2,none⟩) hg1).trans a2;have HWI : Hid _ := hwi;clear hacc HC HS HW HJL hwi;generalize rs[k] = x at a0 a1 a2 hsk HNX;obtain ⟨f',c',p'⟩ := x;obtain ⟨s1,s2,s3,s4,s5⟩ := hsk;simp only at a0 a1 a2 s1 s2 s3 s4 s5;subst s1;have hg := own.lt g rfl;have ownA : (wr.alloc (.cells #[.int .i64 f',.int .i64 1,.int .i64 p'] 149)).ownsRow w.heap.size 149 3 (.slice (some ⟨g,0,none⟩) acc.length cp) acc.length (acc.flatMap runC) := own.alloc _;have hbA : Below w.heap.size w (wr.alloc (.cells #[.int .i64 f',.int .i64 1,.int .i64 p'] 149)) := bw_alloc hb;have kB := heap_alloc_new wr (.cells #[.int .i64 f',.int .i64 1,.int .i64 p'] 149);have sB : wr.heap.size < (wr.alloc (.cells #[.int .i64 f',.int .i64 1,.int .i64 p'] 149)).heap.size := by simp
      have hgB : g < wr.heap.size := hg.2;clear own hb;by_cases hA : acc = []
      · have HN2 : Hid ([] ++ [(f',1,p')] = joinRuns (rs.take (k + 1))) := by rw [Hid,HNX.out,hA];rfl
        subst hA
        go_wp2_with fail
        generalize wr.alloc (.cells #[.int .i64 f',.int .i64 1,.int .i64 p'] 149) = W5 at *;generalize wr.heap.size = nB at *;have q0 := at_cell kB 0;have q1 := at_cell kB 1;have q2 := at_cell kB 2;have OWN : Hid (∀ (n : Nat) (o : Obj),((W5.drewN n).alloc o).ownsRow w.heap.size 149 3 (.slice (some ⟨g,0,none⟩) 0 cp) 0 []) := fun n o => (owns_below ownA (by exact ⟨rfl,rfl,rfl,Nat.le_refl _,fun _ _ => rfl⟩)).alloc o
        have OWNL : Hid (∀ q,(Value.slice (some ⟨g,0,none⟩) 0 cp).ownBlock = some q -> w.heap.size <= q) := fun q hq => (ownA.lt q hq).1
        clear ownA
        go_quiet (fail)
        go_wp2_with (at_builtin;refine wpList_append_own _ rfl _ _ 248 rfl w.heap.size 149 i0 (.agg #[.int .i64 0,.int .i64 0,.int .i64 0]) 3 24 Tryz.underlying248 hi hz0 hz1 hz2 rfl (by decide) _ _ _ rfl (OWN.out _ _) ⟨W5.heap.size,0,none⟩ 1 1 (runC (f',1,p')) rfl rfl ?c1 ?c2 ?c3 ?c4 ?c5 ?_)
        case c1 => exact new_three _ _ _
        case c2 => intro u hu;simp [runC] at hu;rcases hu with rfl | rfl | rfl <;> rfl
        case c3 => have hmx : (20 : Nat) <= maxLen := by unfold maxLen;omega
                   omega
        case c4 => omega
        case c5 => have := hbA.size;simp;omega
        intro v' w9 hown' hgrow hnil;obtain ⟨g',cp',rfl,own9⟩ := run_behind (acc := ([] : List (Int × Int × Int))) rfl hown' (by simpa using hnil);have hb9 : Below w.heap.size w w9 := (bw_alloc (show Below w.heap.size w (W5.drewN _) from ⟨hbA.os,hbA.tape,hbA.output,hbA.size,hbA.block⟩)).grown hgrow (by have := hbA.size;simp;omega) (fun q hq => OWNL.out q hq);have HO : Hid _ := own9;clear hown' hgrow hnil own9 OWN
        go_wp2_with fail
        go_roundw
        case rel => exact ⟨k + 1,g',cp',_,by omega,by go_num,by simp,HN2.out,HO.out,hb9⟩
        case measure => simp [intOf];omega
      · obtain ⟨pre,⟨f,c,p⟩,rfl⟩ := snoc_of acc hA
        have hbd := HWI.out (f,c,p) (by simp);obtain ⟨b1,b2,b3,b4,b5⟩ := hbd;simp only at b1 b2 b3 b4 b5;have hpl : pre.length + 1 <= 16 := by simp at hfew;omega
        have hlen : (pre ++ [(f,c,p)]).length = pre.length + 1 := by simp
        have hw1 : IntKind.i64.wrap ((pre.length : Int) + 1 - 1) = pre.length := by rw [IntKind.wrap_i64];omega
        have hw2 : (pre.length : Int) + 1 - 1 = pre.length := by omega
        have hw3 : IntKind.i64.wrap (pre.length : Int) = pre.length := by rw [IntKind.wrap_i64];omega
        have hj0 : (0 : Int) <= (pre.length : Int) := by omega
        have hj1 : (pre.length : Int) < (pre.length : Int) + 1 := by omega
        clear HWI hA
        go_wp2_with fail
        generalize wr.alloc (.cells #[.int .i64 f',.int .i64 1,.int .i64 p'] 149) = W5 at *;generalize wr.heap.size = nB at *;obtain ⟨⟨t0,t1,t2⟩,u0,u1,u2⟩ := own_three ownA pre.length (by simp);simp only [List.getElem_concat_length] at t0 t1 t2;have hgs : g < W5.heap.size := by omega
        have hne := BelowOf.any W5;have e0 := BelowOf.cell t0 hgs;have e1 := BelowOf.cell t1 hgs;have e2 := BelowOf.cell t2 hgs;have f0 := BelowOf.cell (at_cell kB 0) sB;have f1 := BelowOf.cell (at_cell kB 1) sB;have f2 := BelowOf.cell (at_cell kB 2) sB;have mo := at_on;by_cases hon : f + c = f' /\ p + c = p'
        · have HN2 : Hid (pre ++ [(f,c + 1,p)] = joinRuns (rs.take (k + 1))) := by rw [Hid,HNX.out,join_on _ _ _ _ _ _ _ hon]
          have HA : ∀ q : BelowOf W5,Calls Tryz.prog 276 #[.agg #[.int .i64 f,.int .i64 c,.int .i64 p],.agg #[.int .i64 f',.int .i64 1,.int .i64 p']] q.w' fun e w' => e = .returned (.bool true) /\ Below q.w'.heap.size q.w' w' := fun q => by have h := implRun_on f c p f' 1 p' q.w' (by omega);rwa [decide_eq_true hon.1,decide_eq_true hon.2] at h
          refine wp_region_of (by kernel_rfl) (by kernel_rfl) ?_
          repeat (go_big_quiet_step ((first | (go_at_call 276;exact calls_of (HA _)) | rfl)))
          refine wpQuiet_nil ?_;intro w7 hw7;obtain ⟨⟨wx,cx⟩,hwx⟩ := hw7;have b7 : Below W5.heap.size W5 w7 := by rw [hwx];exact cx
          have own7 := owns_below ownA b7;have kB7 := (b7.block nB sB).trans kB;have sB7 := Nat.lt_of_lt_of_le sB b7.size;have hb7 := bw_call hbA b7;clear hwx cx wx hne e0 e1 e2 f0 f1 f2 HA mo b7 ownA kB sB hbA t0 t1 t2 u0 u1 u2;obtain ⟨⟨t0,t1,t2⟩,u0,u1,u2⟩ := own_three own7 pre.length (by simp);simp only [List.getElem_concat_length] at t0 t1 t2;have q0 := at_cell kB7 0;have q1 := at_cell kB7 1;have q2 := at_cell kB7 2;have mj := at_joined;have hjc : (0 : Int) <= c /\ c <= 16 /\ (0 : Int) <= 1 /\ (1 : Int) <= 16 := by omega
          have hpx : pre.length < (pre ++ [(f,c,p)]).length := by simp
          go_wp2_with fail
          go_region_law (go_simp;go_at_call 278;refine (implRun_joined f c p f' 1 p' _ hjc).mono ?_;rintro e w8 ⟨rfl,b8⟩;have b8' : Below w7.heap.size w7 w8 := ⟨b8.os,b8.tape,b8.output,b8.size,b8.block⟩;have own8 := owns_below own7 b8';obtain ⟨⟨x0,x1,x2⟩,y0,y1,y2⟩ := own_three own8 pre.length hpx;have hb8 := bw_call hb7 b8';clear b8 b8';dsimp only)
          all_goals
            have HO : Hid _ := And.intro (put_run (c2 := c + 1) own8) (bw_set (p := ⟨g,pre.length * 3 + 2,none⟩) (bw_set (p := ⟨g,pre.length * 3 + 1,none⟩) (bw_set (p := ⟨g,pre.length * 3,none⟩) hb8 hg.1 (.int .i64 f)) hg.1 (.int .i64 (c + 1))) hg.1 (.int .i64 p));clear own8 own7 x0 x1 x2 y0 y1 y2 t0 t1 t2 u0 u1 u2 q0 q1 q2 mj kB7 hb8 hb7
            go_wp2_with fail
            go_roundw
            case rel => exact ⟨k + 1,g,cp,pre ++ [(f,c + 1,p)],by omega,by go_num,by simp,HN2.out,HO.out.1,HO.out.2⟩
            case measure => simp [intOf];omega
        · have HN2 : Hid ((pre ++ [(f,c,p)]) ++ [(f',1,p')] = joinRuns (rs.take (k + 1))) := by rw [Hid,HNX.out,join_new _ _ _ _ _ _ _ hon]
          have HA : ∀ q : BelowOf W5,Calls Tryz.prog 276 #[.agg #[.int .i64 f,.int .i64 c,.int .i64 p],.agg #[.int .i64 f',.int .i64 1,.int .i64 p']] q.w' fun e w' => e = .returned (.bool false) /\ Below q.w'.heap.size q.w' w' := fun q => by
            have h := implRun_on f c p f' 1 p' q.w' (by omega)
            rwa [show (decide (f + c = f') && decide (p + c = p')) = false by simpa using hon] at h
          refine wp_region_of (by kernel_rfl) (by kernel_rfl) ?_
          repeat (go_big_quiet_step ((first | (go_at_call 276;exact calls_of (HA _)) | rfl)))
          refine wpQuiet_nil ?_;intro w7 hw7;obtain ⟨⟨wx,cx⟩,hwx⟩ := hw7;have b7 : Below W5.heap.size W5 w7 := by rw [hwx];exact cx
          have own7 := owns_below ownA b7;have kB7 := (b7.block nB sB).trans kB;replace hbA := bw_call hbA b7;clear hwx cx wx hne e0 e1 e2 f0 f1 f2 HA mo b7 ownA kB t0 t1 t2 u0 u1 u2;have q0 := at_cell kB7 0;have q1 := at_cell kB7 1;have q2 := at_cell kB7 2;have OWN : Hid (∀ (o : Obj) (_ : Unit),(w7.alloc o).ownsRow w.heap.size 149 3 (.slice (some ⟨g,0,none⟩) (pre ++ [(f,c,p)]).length cp) (pre ++ [(f,c,p)]).length ((pre ++ [(f,c,p)]).flatMap runC)) := fun o _ => own7.alloc o
          have OWNL : Hid (∀ q,(Value.slice (some ⟨g,0,none⟩) (pre ++ [(f,c,p)]).length cp).ownBlock = some q -> w.heap.size <= q) := fun q hq => (own7.lt q hq).1
          clear own7
          go_wp2_with (at_builtin;refine wpList_append_own _ rfl _ _ 248 rfl w.heap.size 149 i0 (.agg #[.int .i64 0,.int .i64 0,.int .i64 0]) 3 24 Tryz.underlying248 hi hz0 hz1 hz2 rfl (by decide) _ _ _ rfl (OWN.out _ ()) ⟨w7.heap.size,0,none⟩ 1 1 (runC (f',1,p')) rfl rfl ?c1 ?c2 ?c3 ?c4 ?c5 ?_)
          case c1 => exact new_three _ _ _
          case c2 => intro u hu;simp [runC] at hu;rcases hu with rfl | rfl | rfl <;> rfl
          case c3 => have hmx : (20 : Nat) <= maxLen := by unfold maxLen;omega
                     omega
          case c4 => omega
          case c5 => have := hbA.size;simp;omega
          intro v' w9 hown' hgrow hnil;obtain ⟨g',cp',rfl,own9⟩ := run_behind (acc := pre ++ [(f,c,p)]) (x := (f',1,p')) (base := w.heap.size) (w3 := w9) (v' := v') rfl (by simpa using hown') (by simpa using hnil);have hb9 : Below w.heap.size w w9 := (bw_alloc (show Below w.heap.size w w7 from ⟨hbA.os,hbA.tape,hbA.output,hbA.size,hbA.block⟩)).grown hgrow (by have := hbA.size;simp;omega) (fun q hq => OWNL.out q hq);have HO : Hid _ := own9;clear hown' hgrow hnil own9 OWN
          go_wp2_with fail
          go_roundw
          case rel => exact ⟨k + 1,g',cp',_,by omega,by go_num,by simp,HN2.out,HO.out,hb9⟩
          case measure => simp [intOf];omega
    · obtain rfl : k = rs.length := by omega
      rw [List.take_length] at hacc;have HO : Hid (wr.ownsRow w.heap.size 149 3 (.slice (some ⟨g,0,none⟩) acc.length cp) (joinRuns rs).length ((joinRuns rs).flatMap runC)) := by rw [Hid,<- hacc];exact own
      clear own hacc
      go_wp2_with fail
      go_ret;exact ⟨_,rfl,HO.out,by simp,hb⟩
def singles (l : List Int) : Nat -> List (Int × Int × Int)
  | 0 => []
  | n + 1 => if l.getD n 0 = -1 then singles l n else singles l n ++ [((n : Int),1,l.getD n 0)]
theorem singles_len (l : List Int) (n : Nat) : (singles l n).length <= n := by
  induction n with
  | zero => simp [singles]
  | succ n ih =>
    rw [singles]
    split
    · omega
    · rw [List.length_append,List.length_singleton];omega
theorem singles_single (l : List Int) (n : Nat) (hn : n <= 16) (hv : ∀ j,j < n -> -1 <= l.getD j 0 /\ l.getD j 0 <= 23) : ∀ r ∈ singles l n,Single r := by
  induction n with
  | zero => intro r hr;simp [singles] at hr
  | succ n ih =>
    have ih' := ih (by omega) (fun j hj => hv j (by omega));rw [singles]
    split
    · exact ih'
    · intro r hr
      rcases List.mem_append.1 hr with hr | hr
      · exact ih' r hr
      · rw [List.mem_singleton] at hr
        subst hr;have := hv n (by omega);refine ⟨rfl,?_,?_,?_,?_⟩ <;> simp only <;> omega
theorem join_singles (l : List Int) (n : Nat) (hv : ∀ j,j < n -> -1 <= l.getD j 0 /\ l.getD j 0 <= 23) : joinRuns (singles l n) = upto l n := by
  induction n with
  | zero => rfl
  | succ n ih =>
    have ih' := ih (fun j hj => hv j (by omega));have hn := hv n (by omega);rw [singles,upto,<- ih'];unfold grow;by_cases h : l.getD n 0 = -1
    · rw [if_pos h,if_pos (by omega)]
    · rw [if_neg h,if_neg (by omega),joinRuns,List.foldl_append]
      rfl
theorem upto_congr (a b : List Int) (n : Nat) (h : ∀ j,j < n -> a.getD j 0 = b.getD j 0) : upto a n = upto b n := by
  induction n with
  | zero => rfl
  | succ n ih => rw [upto,upto,ih (fun j hj => h j (by omega)),h n (by omega)]
theorem getD_take (l : List Int) (s j : Nat) (hj : j < s) : (l.take s).getD j 0 = l.getD j 0 := by
  rw [List.getD_eq_getElem?_getD,List.getElem?_take_of_lt hj,List.getD_eq_getElem?_getD]
theorem mapOf_take (l : List Int) (size : Int) (s : Nat) (hl : l.length = 16) (hs : (s : Int) = min (max size 0) 16) : mapOf (l.take s) = mapOf (cutAt l size) := by
  have hs16 : s <= 16 := by omega
  rw [mapOf,mapOf,cutAt_length,List.length_take,hl,Nat.min_eq_left hs16];have h1 := upto_skip (cutAt l size) s (16 - s) (fun j h1 h2 => by rw [cutAt_get l size j (by omega),if_neg (by omega)];omega);rw [show s + (16 - s) = 16 by omega] at h1;rw [h1];refine upto_congr _ _ s (fun j hj => ?_);rw [getD_take l s j hj,cutAt_get l size j (by omega),if_pos (by omega)]
set_option maxRecDepth 100000 in
set_option maxHeartbeats 3200000 in
theorem implMapOf_any (v : Value) (l : List Int) (w : World) (hl : l.length <= 16) (hv : ∀ j,j < l.length -> -1 <= l.getD j 0 /\ l.getD j 0 <= 23) (r : Reads w.heap.size w v (l.map (Value.int .i64))) :
    Calls Tryz.prog 233 #[v] w fun e w' => ∃ v' : Value,e = .returned v' /\ w'.ownsRow w.heap.size 149 3 v' (mapOf l).length ((mapOf l).flatMap runC) /\ v' ≠ .slice none 0 0 /\ Below w.heap.size w w' := by
  obtain ⟨i0,hi,hz0,hz1,hz2⟩ := info_parts Tryz.infoRun;obtain ⟨o,cap,rfl,hm,hc,-⟩ := r
  obtain ⟨N,hN⟩ : ∃ N,l.length = N := ⟨_,rfl⟩
  have hlm : (l.map (Value.int .i64)).length = N := by simp [hN]
  rw [hlm];rw [hN] at hl hv;have HC : Hid (∀ j,j < N -> ∃ g off,o = some ⟨g,off,none⟩ /\ g < w.heap.size /\ w.cell? ⟨g,off + j,none⟩ = some (.int .i64 (l.getD j 0))) := fun j hj => hc j _ (by rw [List.getElem?_map,List.getElem?_eq_getElem (by omega),List.getD_eq_getElem?_getD,List.getElem?_eq_getElem (by omega)];rfl)
  have HV : Hid _ := hv;have HJ : Hid (joinRuns (singles l N) = mapOf l) := by rw [Hid,join_singles l N hv,mapOf,hN]
  have HSS : Hid (∀ r ∈ singles l N,Single r) := singles_single l N hl hv;have own0 : (w.alloc (.cells #[] 149)).ownsRow w.heap.size 149 3 (.slice (some ⟨w.heap.size,0,none⟩) 0 0) 0 [] := World.ownsRow_lit w #[] 0 (Nat.le_refl _) (Nat.zero_le _) rfl;have d0 : Below w.heap.size w (w.alloc (.cells #[] 149)) := bw_alloc (Below.refl _ _);clear hc hm hlm hv hN
  go_enter Tryz.func233,Tryz.ntmps233
  go_wp2_with fail
  go_loopw [3,9] (fun q i wr => ∃ (k g cp : Nat) (acc : List (Int × Int × Int)),k <= N /\ i = .int .i64 k /\ q = .slice (some ⟨g,0,none⟩) acc.length cp /\ acc = singles l k /\ wr.ownsRow w.heap.size 149 3 (.slice (some ⟨g,0,none⟩) acc.length cp) acc.length (acc.flatMap runC) /\ Below w.heap.size w wr) (fun _ i _ => N - (intOf i).toNat)
  case atStart => exact ⟨0,_,_,[],Nat.zero_le _,rfl,rfl,rfl,own0,d0⟩
  case round =>
    clear own0 d0;obtain ⟨k,g,cp,acc,hk,rfl,rfl,hacc,own,hb⟩ := hrel;by_cases hlt : k < N
    · obtain ⟨g1,off,rfl,hg1,a0⟩ := HC.out k hlt
      have hvb := HV.out k hlt;have hfew : acc.length <= k := by rw [hacc];exact singles_len l k
      have HNX : Hid (singles l (k + 1) = if l.getD k 0 = -1 then acc else acc ++ [((k : Int),1,l.getD k 0)]) := by rw [Hid,hacc];rfl
      replace a0 := (hb.cell (p := ⟨g1,off + k,none⟩) hg1).trans a0;clear hacc HC HV;generalize l.getD k 0 = z at a0 hvb HNX;have hk0 : (0 : Int) <= (k : Int) := by omega
      have hk1 : (k : Int) < (N : Int) := by omega
      by_cases hneg : z = -1
      · have HN2 : Hid (acc = singles l (k + 1)) := by rw [Hid,HNX.out,if_pos hneg]
        subst hneg
        go_wp2_with fail
        go_roundw
        case rel => exact ⟨k + 1,g,cp,acc,by omega,by go_num,rfl,HN2.out,own,hb⟩
        case measure => simp [intOf];omega
      · have HN2 : Hid (acc ++ [((k : Int),1,z)] = singles l (k + 1)) := by rw [Hid,HNX.out,if_neg hneg]
        have hz : (z != -1) = true := by simpa using hneg
        have OWNL : Hid (∀ q,(Value.slice (some ⟨g,0,none⟩) acc.length cp).ownBlock = some q -> w.heap.size <= q) := fun q hq => (own.lt q hq).1
        have OWN : Hid (∀ (o : Obj),(wr.alloc o).ownsRow w.heap.size 149 3 (.slice (some ⟨g,0,none⟩) acc.length cp) acc.length (acc.flatMap runC)) := fun o => own.alloc o
        clear own hneg
        go_wp2_with (at_builtin;refine wpList_append_own _ rfl _ _ 248 rfl w.heap.size 149 i0 (.agg #[.int .i64 0,.int .i64 0,.int .i64 0]) 3 24 Tryz.underlying248 hi hz0 hz1 hz2 rfl (by decide) _ _ _ rfl (OWN.out _) ⟨wr.heap.size,0,none⟩ 1 1 (runC ((k : Int),1,z)) rfl rfl ?c1 ?c2 ?c3 ?c4 ?c5 ?_)
        case c1 => exact new_three _ _ _
        case c2 => intro u hu;simp [runC] at hu;rcases hu with rfl | rfl | rfl <;> rfl
        case c3 => have hmx : (20 : Nat) <= maxLen := by unfold maxLen;omega
                   omega
        case c4 => omega
        case c5 => have := hb.size;simp;omega
        intro v' w3 hown' hgrow hnil;obtain ⟨g',cp',rfl,own9⟩ := run_behind (acc := acc) (x := ((k : Int),1,z)) (base := w.heap.size) (w3 := w3) (v' := v') rfl (by simpa using hown') (by simpa using hnil);have hb9 : Below w.heap.size w w3 := (bw_alloc hb).grown hgrow (by have := hb.size;simp;omega) (fun q hq => OWNL.out q hq);have HO : Hid _ := own9;clear hown' hgrow hnil own9 OWN
        go_wp2_with fail
        go_roundw
        case rel => exact ⟨k + 1,g',cp',_,by omega,by go_num,by simp,HN2.out,HO.out,hb9⟩
        case measure => simp [intOf];omega
    · obtain rfl : k = N := by omega
      have hal : acc.length <= 16 := by rw [hacc];have := singles_len l k;omega
      rw [<- hacc] at HJ HSS;have rd := ReadsR.of_own runC_len own;have hbs := hb.size;clear own hacc
      go_wp2_with fail
      refine (joined_any _ acc _ HSS.out hal rd).mono ?_;rintro e w2 ⟨v',rfl,own2,hnn,b2⟩;have HO : Hid (w2.ownsRow w.heap.size 149 3 v' (mapOf l).length ((mapOf l).flatMap runC)) := by rw [Hid,<- HJ.out];exact owns_mono own2 hbs
      have hb2 := bw_call hb b2;clear own2 b2 rd
      go_wp2_with fail
      go_ret;exact ⟨v',rfl,HO.out,hnn,hb2⟩
end Go.Proofs.YtmnhnhjefocicaaGreatDoor
