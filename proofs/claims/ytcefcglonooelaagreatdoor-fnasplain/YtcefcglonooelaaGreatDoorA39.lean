import Derived.Test.YtcefcglonooelaaGreatDoorA25
import Derived.Test.YtcefcglonooelaaGreatDoorA38
namespace Go.Proofs.YtcefcglonooelaaGreatDoor
open Go.RowKit
set_option linter.unusedVariables false
set_option maxHeartbeats 3200000 in
theorem valueAtV_any (base i : Nat) (place : Int) (v1 v2 vb : Value) (cs ps : List Int) (bks : List Bk) (w : World) (hi : i < bks.length) (hfit : FitRuns bks[i].rs) (hpg : pageOf bks[i].rs place < (ps.length : Int)) (hpm : -1 <= pageOf bks[i].rs place) (own : OwnV base w v1 v2 vb cs ps bks) :
    Calls Tryz.prog 95 #[.agg #[v1,v2,vb],.int .i64 i,.int .i64 place] w fun e w' => e = .returned (.int .i64 (if pageOf bks[i].rs place < 0 then 0 else ps.getD (pageOf bks[i].rs place).toNat 0)) /\ Below w.heap.size w w' := by
  obtain ⟨o1,k1,o2,k2,ob,kb,rfl,rfl,rfl⟩ := own.forms;obtain ⟨g,cap,hvb⟩ := own.b.at i hi;cases hvb;obtain ⟨W0,hW0,kA,d0,z0⟩ := box1 w #[.slice o1 cs.length k1,.slice o2 ps.length k2,.slice (some ⟨g,0,none⟩) bks.length kb] 42;have HW0 : Hid (W0 = _) := hW0;have own0 := own.below d0;have hmi := own0.b.maps _ (List.getElem_mem hi);obtain ⟨⟨a0,a1,a2,a3,a4⟩,-⟩ := own_five own0.b.row i hi;have rp := own0.p.p
  obtain ⟨x,hx⟩ : ∃ x,bks[i] = x := ⟨_,rfl⟩
  rw [hx] at hfit hpg hpm hmi a2 ⊢;clear hx a0 a1 a3 a4;obtain ⟨xn,xs,xm,xr,xf,xe⟩ := x;simp only at hfit hpg hpm hmi a2 ⊢;obtain ⟨om,cm,hxm⟩ := own_slice hmi;subst hxm;have rm := ReadsR.of_own runC_len hmi;have pA := at_cell kA 2;have i0 : (0 : Int) <= (i : Int) := by omega
  have i1 : (i : Int) < (bks.length : Int) := by omega
  rw [hW0] at pA a2;clear hW0 z0 own own0 hmi
  go_enter Tryz.func95,Tryz.ntmps95
  go_wp2_with fail
  rw [<- HW0.out];clear HW0 pA a2;refine (implPageOf_any _ xr place _ hfit rm).mono ?_
  obtain ⟨p,hpp⟩ : ∃ p,pageOf xr place = p := ⟨_,rfl⟩
  have HPP : Hid (pageOf xr place = p) := hpp;rw [hpp] at hpg hpm ⊢;clear hpp;rintro e w1 ⟨rfl,b1⟩;replace kA := (b1.block _ (heap_lt kA)).trans kA;have rp1 := (rp.below b1).mono b1.size;replace d0 := bw_call d0 b1;clear rm rp b1;by_cases hp : p < 0
  · obtain rfl : p = -1 := by omega
    clear rp1 kA hp hpg hpm
    go_wp2_with fail
    go_ret
    any_goals (exfalso;have hq := HPP.out;omega)
    exact ⟨ret_int (by first | (rw [HPP.out];rfl) | rfl | simp [HPP.out]),d0⟩
  · obtain ⟨k,rfl⟩ := Int.eq_ofNat_of_zero_le (show 0 <= p by omega)
    have hk : k < ps.length := by omega
    obtain ⟨_,_,e1,-,c1,-⟩ := rp1;simp only [List.length_map] at e1;cases e1;obtain ⟨gp,off,hgp,-,cc⟩ := c1 k _ (getD_some ps k hk);subst hgp;have q1 := at_cell kA 1;have hne : ((k : Int) == -1) = false := by rw [beq_eq_false_iff_ne];omega
    have j0 : (0 : Int) <= (k : Int) := by omega
    have j1 : (k : Int) < (ps.length : Int) := by omega
    clear c1 kA hp hpg hpm
    go_wp2_with fail
    all_goals first
      | (exfalso;have hq := HPP.out;omega)
      | (refine bodyPost_ret (v := .int .i64 (ps[k]'hk)) (by first | simp [results,Tryz.results95,go_sem] | rfl) rfl ⟨ret_int ?_,d0⟩
         have hq := HPP.out
         simp [hq,hk])
set_option maxRecDepth 100000 in
set_option maxHeartbeats 6400000 in
theorem shownBookV_any (base i : Nat) (v1 v2 vb : Value) (cs ps : List Int) (bks : List Bk) (w : World) (hi : i < bks.length) (hnm : bks[i].nm.size <= 1099511627776) (hfit : FitRuns bks[i].rs)
    (hpart : mapOk bks[i].rs = true /\ (1 <= bks[i].sz /\ bks[i].sz <= 16) /\ ∀ k,k < 16 -> -1 <= (pages bks[i].rs).getD k 0 /\ (pages bks[i].rs).getD k 0 < ps.length) (own : OwnV base w v1 v2 vb cs ps bks) :
    Calls Tryz.prog 55 #[.agg #[v1,v2,vb],.int .i64 i] w fun e w' => ∃ vv : Value,e = .returned (.agg #[.string bks[i].nm,.int .i64 bks[i].sz,vv,.bool bks[i].fx,.int .i64 bks[i].ep]) /\ w'.ownsRow w.heap.size 2 1 vv bks[i].sz.toNat ((shownV ps bks[i].rs bks[i].sz.toNat).map (Value.int .i64)) /\ Below w.heap.size w w' := by
  obtain ⟨i0,hI,hz0,hz1,hz2⟩ := info_parts Tryz.infoI64;obtain ⟨o1,k1,o2,k2,ob,kb,rfl,rfl,rfl⟩ := own.forms;obtain ⟨g,cap,hvb⟩ := own.b.at i hi;cases hvb;obtain ⟨⟨a0,a1,a2,a3,a4⟩,-⟩ := own_five own.b.row i hi;have hgl := (own.b.row.lt g rfl).2;have hmi := own.b.maps _ (List.getElem_mem hi)
  have HVA : Hid (∀ (W : World) (k : Nat),k < 16 -> OwnV base W (.slice o1 cs.length k1) (.slice o2 ps.length k2) (.slice (some ⟨g,0,none⟩) bks.length kb) cs ps bks -> Calls Tryz.prog 95 #[.agg #[.slice o1 cs.length k1,.slice o2 ps.length k2,.slice (some ⟨g,0,none⟩) bks.length kb],.int .i64 i,.int .i64 (k : Int)] W fun e w' => e = .returned (.int .i64 (valAt ps bks[i].rs k)) /\ Below W.heap.size W w') := fun W k hk ow => by
    have e := page_at hpart.1 k hk;have h := valueAtV_any base i (k : Int) _ _ _ cs ps bks W hi hfit (by rw [e];exact (hpart.2.2 k hk).2) (by rw [e];exact (hpart.2.2 k hk).1) ow;rw [e] at h;exact h
  obtain ⟨x,hx⟩ : ∃ x,bks[i] = x := ⟨_,rfl⟩
  rw [hx] at a0 a1 a2 a3 a4 hnm hpart hmi HVA ⊢;clear hx hfit;obtain ⟨nm,sz,m,rs,fx,ep⟩ := x;simp only at a0 a1 a2 a3 a4 hnm hpart hmi HVA ⊢;obtain ⟨-,⟨hs1,hs2⟩,-⟩ := hpart;obtain ⟨om,cm,hmm⟩ := own_slice hmi;subst hmm;obtain ⟨n,hn⟩ := Int.eq_ofNat_of_zero_le (show 0 <= sz by omega);subst hn;rw [show ((n : Int)).toNat = n from rfl];have hn16 : n <= 16 := by omega
  obtain ⟨W2,hW2,kS2,-,d2,z2⟩ := box2 w #[.slice o1 cs.length k1,.slice o2 ps.length k2,.slice (some ⟨g,0,none⟩) bks.length kb] #[.string ⟨#[]⟩,.int .i64 0,.slice none 0 0,.bool false,.int .i64 0] 42 51;have s2 := at_cell kS2 2;replace a0 := (d2.cell (p := ⟨g,i * 5,none⟩) hgl).trans a0;replace a1 := (d2.cell (p := ⟨g,i * 5 + 1,none⟩) hgl).trans a1;replace a2 := (d2.cell (p := ⟨g,i * 5 + 2,none⟩) hgl).trans a2;replace a3 := (d2.cell (p := ⟨g,i * 5 + 3,none⟩) hgl).trans a3;replace a4 := (d2.cell (p := ⟨g,i * 5 + 4,none⟩) hgl).trans a4;obtain ⟨W3,hW3,kS,kZ,kB,d3,z3⟩ := box3 w #[.slice o1 cs.length k1,.slice o2 ps.length k2,.slice (some ⟨g,0,none⟩) bks.length kb] #[.string ⟨#[]⟩,.int .i64 0,.slice none 0 0,.bool false,.int .i64 0] #[.string nm,.int .i64 (n : Int),.slice om rs.length cm,.bool fx,.int .i64 ep] 42 51 87;obtain ⟨M,hmk,hown⟩ := made_roomI n (by omega);have own0 := hown W3 W3.heap.size (Nat.le_refl _);have bd0 : Below W3.heap.size W3 (W3.alloc (.cells M 2)) := bw_alloc (Below.refl _ _);have u1 : (((w.alloc (.cells #[.slice o1 cs.length k1,.slice o2 ps.length k2,.slice (some ⟨g,0,none⟩) bks.length kb] 42)).alloc (.cells #[.string ⟨#[]⟩,.int .i64 0,.slice none 0 0,.bool false,.int .i64 0] 51)).alloc (.cells #[.string nm,.int .i64 (n : Int),.slice om rs.length cm,.bool fx,.int .i64 ep] 87)).cell? ⟨w.heap.size + 1 + 1,1,none⟩ = some (.int .i64 (n : Int)) := by rw [<- hW3];exact at_cell kB 1
  have hwx : w.heap.size + 1 + 1 < (W3.alloc (.cells M 2)).heap.size := by simp;omega
  have u1' : ((((w.alloc (.cells #[.slice o1 cs.length k1,.slice o2 ps.length k2,.slice (some ⟨g,0,none⟩) bks.length kb] 42)).alloc (.cells #[.string ⟨#[]⟩,.int .i64 0,.slice none 0 0,.bool false,.int .i64 0] 51)).alloc (.cells #[.string nm,.int .i64 (n : Int),.slice om rs.length cm,.bool fx,.int .i64 ep] 87)).alloc (.cells M 2)).cell? ⟨w.heap.size + 1 + 1,1,none⟩ = some (.int .i64 (n : Int)) := by rw [<- hW3];exact (bd0.cell (p := ⟨w.heap.size + 1 + 1,1,none⟩) (by show w.heap.size + 1 + 1 < W3.heap.size;omega)).trans (at_cell kB 1)
  have HW3 : Hid (W3 = _) := hW3;have HK : Hid _ := And.intro kS (And.intro kZ (And.intro kB (And.intro d3 z3)));have HOWN : Hid _ := own;have i0' : (0 : Int) <= (i : Int) := by omega
  have i1' : (i : Int) < (bks.length : Int) := by omega
  subst hW2;clear hW3 kS kZ kB d3 z3 own d2 z2 kS2 hown hmi hwx
  go_enter Tryz.func55,Tryz.ntmps55
  go_wp2_with fail
  rw [<- HW3.out];clear HW3 hmk u1 u1' a0 a1 a2 a3 a4 s2;generalize W3.alloc (.cells M 2) = W4 at own0 bd0 ⊢
  go_loopw [6,18] (fun q i' wr => ∃ k gv cp : Nat,k <= n /\ i' = .int .i64 k /\ q = .slice (some ⟨gv,0,none⟩) k cp /\ wr.ownsRow W3.heap.size 2 1 (.slice (some ⟨gv,0,none⟩) k cp) k ((shownV ps rs k).map (Value.int .i64)) /\ Below W3.heap.size W3 wr) (fun _ i' _ => n - (intOf i').toNat)
  case atStart => exact ⟨0,_,_,Nat.zero_le _,rfl,rfl,(by have h := own0;rw [HK.out.2.2.2.2] at h ⊢;exact h),bd0⟩
  case round =>
    clear own0 bd0;obtain ⟨k,gv,cp,hk,rfl,rfl,ow,hb⟩ := hrel;obtain ⟨kS,kZ,kB,d3,z3⟩ := HK.out;have kSr := (hb.block _ (heap_lt kS)).trans kS;have kZr := (hb.block _ (heap_lt kZ)).trans kZ;have kBr := (hb.block _ (heap_lt kB)).trans kB;have dw : Below w.heap.size w wr := d3.trans (hb.mono (by omega));by_cases hkn : k < n
    · have s0 := at_cell kSr 0
      have s1 := at_cell kSr 1;have s2 := at_cell kSr 2
      obtain ⟨x,hx⟩ : ∃ x,valAt ps rs k = x := ⟨_,rfl⟩
      have HX : Hid (valAt ps rs k = x) := hx
      have HKN : Hid (k < n /\ n <= 16) := ⟨hkn,hn16⟩
      have HOR : Hid _ := HOWN.out.below dw;have HB : Hid (Below W3.heap.size W3 wr) := hb;have HOW : Hid (wr.ownsRow W3.heap.size 2 1 (.slice (some ⟨gv,0,none⟩) k cp) k ((shownV ps rs k).map (Value.int .i64))) := ow;have j2' : (k : Int) < (n : Int) := by omega
      clear hx kS kZ kB d3 z3 kSr kZr kBr dw hb ow
      go_wp2_with fail
      refine (HVA.out _ k (by have := HKN.out;omega) HOR.out).mono ?_;rw [HX.out];rintro e w5 ⟨rfl,b5⟩;have ow5 := owns_below HOW.out b5;have hb5 := bw_call HB.out b5;have hb5s := hb5.size;have hgl5 := fun q hq => (ow5.lt q hq).1
      clear s0 s1 s2 b5
      go_wp2_with (at_builtin;refine wpList_append_own _ rfl _ _ 37 rfl W3.heap.size 2 i0 (.int .i64 0) 1 8 Tryz.underlying37 hI hz0 hz1 hz2 rfl (by decide) _ _ _ rfl (ow5.alloc _) ⟨w5.heap.size,0,none⟩ 1 1 [.int .i64 x] rfl rfl ?c1 ?c2 ?c3 ?c4 ?c5 ?_)
      case c1 => exact new_one _ _ _
      case c2 => first | rfl | (intro u hu;simp only [List.mem_singleton] at hu;subst hu;rfl)
      case c3 => have := HKN.out;unfold maxLen;omega
      case c4 => have := HKN.out;omega
      case c5 => simp;omega
      intro v' w6 hown' hgrow' hnil';have own6 : w6.ownsRow W3.heap.size 2 1 v' (k + 1) ((shownV ps rs (k + 1)).map (Value.int .i64)) := by rw [shownV_succ,HX.out,List.map_append];exact hown'
      obtain ⟨g',cp',hv'⟩ : ∃ g' cp',v' = .slice (some ⟨g',0,none⟩) (k + 1) cp' := owns_form own6;subst hv';have hb6 : Below W3.heap.size W3 w6 := (bw_alloc hb5).grown hgrow' (by simp;omega) hgl5;have HO : Hid _ := And.intro own6 hb6;clear hown' hgrow' hnil' own6 hb6 ow5 hb5 hgl5
      go_wp2_with fail
      go_roundw
      case rel => exact ⟨k + 1,_,_,by have := HKN.out;omega,by go_num,rfl,HO.out⟩
      case measure => simp [intOf];omega
    · obtain rfl : k = n := by omega
      have hnk : ¬ (k : Int) < (k : Int) := by omega
      have O0 : wr.drew.cell? ⟨w.heap.size + 1 + 1,0,none⟩ = some (.string nm) := at_cell kBr 0;have O1 : wr.drew.cell? ⟨w.heap.size + 1 + 1,1,none⟩ = some (.int .i64 (k : Int)) := at_cell kBr 1;have O3 : wr.drew.cell? ⟨w.heap.size + 1 + 1,3,none⟩ = some (.bool fx) := at_cell kBr 3;have O4 : wr.drew.cell? ⟨w.heap.size + 1 + 1,4,none⟩ = some (.int .i64 ep) := at_cell kBr 4;have HDW : Hid (Below w.heap.size w wr) := dw;have HZ3 : Hid (W3.heap.size = w.heap.size + 1 + 1 + 1) := z3;clear kS kZ kB d3 kSr hb dw z3
      go_wp2_with fail
      have HKeep : ∀ X,Upto (w.heap.size + 1) wr X -> (X.cell? ⟨w.heap.size + 1 + 1,0,none⟩ = some (.string nm) /\ X.cell? ⟨w.heap.size + 1 + 1,1,none⟩ = some (.int .i64 (k : Int)) /\ X.cell? ⟨w.heap.size + 1 + 1,3,none⟩ = some (.bool fx) /\ X.cell? ⟨w.heap.size + 1 + 1,4,none⟩ = some (.int .i64 ep)) := fun X hX => by
        have x0 := (hX.block _ (heap_lt kBr) (by omega)).trans kBr;exact ⟨at_cell x0 0,at_cell x0 1,at_cell x0 3,at_cell x0 4⟩
      clear O0 O1 O3 O4
      go_region_held3 (fun w' => w'.cell? ⟨w.heap.size + 1 + 1,0,none⟩ = some (.string nm) /\ w'.cell? ⟨w.heap.size + 1 + 1,1,none⟩ = some (.int .i64 (k : Int)) /\ w'.cell? ⟨w.heap.size + 1 + 1,3,none⟩ = some (.bool fx) /\ w'.cell? ⟨w.heap.size + 1 + 1,4,none⟩ = some (.int .i64 ep))
        ((refine HKeep _ ?_;repeat (first | exact U5 | exact Upto.refl _ _ | (apply Upto.setCell;rotate_left;exact Or.inl rfl) | refine Upto.drew ?_)))
        ((go_at_call 96;refine (clone_any nm _ hnm).mono ?_;rintro e w5 ⟨rfl,b5⟩;have U5 : Upto (w.heap.size + 1) wr w5 := ((Upto.refl _ wr).drew).below b5;have kZ5 := (b5.block _ (heap_lt kZr)).trans kZr;have q0 := at_cell kZ5 0;have q1 := at_cell kZ5 1;have q2 := at_cell kZ5 2;have q3 := at_cell kZ5 3;have q4 := at_cell kZ5 4;have f0 := at_open kZ5 0;have f1 := at_open kZ5 1;have f2 := at_open kZ5 2;have f3 := at_open kZ5 3;have f4 := at_open kZ5 4))
      all_goals
        have ow5 := owns_below (owns_below ow ((Below.refl _ wr).drew)) b5;have hk6 := set_five kZ5 (.string nm) (.int .i64 (k : Int)) (.slice (some ⟨gv,0,none⟩) k cp) (.bool fx) (.int .i64 ep);have hd5 := bw_call (bw_drew HDW.out) b5
        have U6 := ((((((Upto.refl (w.heap.size + 1) w5).setCell ⟨w.heap.size + 1,0,none⟩ (.inl rfl) (.string nm)).setCell ⟨w.heap.size + 1,1,none⟩ (.inl rfl) (.int .i64 (k : Int))).setCell ⟨w.heap.size + 1,2,none⟩ (.inl rfl) (.slice (some ⟨gv,0,none⟩) k cp)).setCell ⟨w.heap.size + 1,3,none⟩ (.inl rfl) (.bool fx)).setCell ⟨w.heap.size + 1,4,none⟩ (.inl rfl) (.int .i64 ep))
        have ow6 := own_rng_not ow5 (fun q hq hqv => U6.block q hq (fun e => own_not_box ow5 kZ5 (by decide) (by rw [<- e];exact hqv)));have hb6 := bw_five hd5 (Nat.le_succ _) (.string nm) (.int .i64 (k : Int)) (.slice (some ⟨gv,0,none⟩) k cp) (.bool fx) (.int .i64 ep);have HR : Hid _ := And.intro (owns_mono ow6 (show w.heap.size <= W3.heap.size by have := HZ3.out;omega)) hb6;have c0 := at_cell hk6 0;have c1 := at_cell hk6 1;have c2 := at_cell hk6 2;have c3 := at_cell hk6 3;have c4 := at_cell hk6 4;clear ow5 hk6 hd5 U6 ow6 hb6 ow kZr kBr HKeep q0 q1 q2 q3 q4 f0 f1 f2 f3 f4 kZ5 b5
        go_wp2_with fail
        refine bodyPost_ret (v := .agg #[.string nm,.int .i64 (k : Int),.slice (some ⟨gv,0,none⟩) k cp,.bool fx,.int .i64 ep]) ?_ rfl ⟨_,rfl,HR.out⟩;simp [results,Tryz.results55,go_sem,c0,c1,c2,c3,c4]
set_option maxRecDepth 100000 in
set_option maxHeartbeats 6400000 in
theorem implShownPlainV_any (base : Nat) (v1 v2 vb : Value) (cs ps : List Int) (bks : List Bk) (w : World) (hn : ∀ b ∈ bks,b.nm.size <= maxLen) (hf : ∀ b ∈ bks,FitRuns b.rs) (own : OwnV base w v1 v2 vb cs ps bks) :
    Calls Tryz.prog 19 #[.agg #[v1,v2,vb]] w fun e w' => ∃ (g cp : Nat) (ms : List Pk),e = .returned (.slice (some ⟨g,0,none⟩) ms.length cp) /\ ms.map Pk.pv = shownPlain ⟨cs,ps,bks.map Bk.pb⟩ /\ OwnK w.heap.size w' (.slice (some ⟨g,0,none⟩) ms.length cp) ms /\ ApartK ms /\ Below w.heap.size w w' := by
  obtain ⟨j0,ji,jz0,jz1,jz2⟩ := info_parts Tryz.infoPlain;obtain ⟨o1,k1,o2,k2,ob,kb,rfl,rfl,rfl⟩ := own.forms;obtain ⟨W0,hW0,kS,d0,z0⟩ := box1 w #[.slice o1 cs.length k1,.slice o2 ps.length k2,.slice ob bks.length kb] 42;have own0 := own_noplains W0;have bd0 : Below W0.heap.size W0 (W0.alloc (.cells #[] 51)) := bw_alloc (Below.refl _ _);have HW0 : Hid (W0 = _) := hW0;have HN : Hid (∀ b ∈ bks,b.nm.size <= maxLen) := hn;have HF : Hid (∀ b ∈ bks,FitRuns b.rs) := hf;have HOWN : Hid (OwnV base W0 (.slice o1 cs.length k1) (.slice o2 ps.length k2) (.slice ob bks.length kb) cs ps bks) := own.below d0;obtain ⟨_,_,_,hml,-⟩ := own.reads.b.row
  have HK : Hid (W0.heap[w.heap.size]? = some (.cells #[.slice o1 cs.length k1,.slice o2 ps.length k2,.slice ob bks.length kb] 42 (0,0)) /\ Below w.heap.size w W0 /\ W0.heap.size = w.heap.size + 1) := ⟨kS,d0,z0⟩
  obtain ⟨ok,hok⟩ : ∃ x,shelfOk ⟨cs,ps,bks.map Bk.pb⟩ = x := ⟨_,rfl⟩
  have HOK : Hid (shelfOk ⟨cs,ps,bks.map Bk.pb⟩ = ok) := hok
  obtain ⟨sp,hsp⟩ : ∃ x,shownPlain ⟨cs,ps,bks.map Bk.pb⟩ = x := ⟨_,rfl⟩
  have HSP : Hid (shownPlain ⟨cs,ps,bks.map Bk.pb⟩ = sp) := hsp;rw [hsp];have kW := (bd0.block _ (heap_lt kS)).trans kS
  obtain ⟨W1,hW1⟩ : ∃ W1,W1 = W0.alloc (.cells #[] 51) := ⟨_,rfl⟩
  have HW1 : Hid (W1 = (w.alloc (.cells #[.slice o1 cs.length k1,.slice o2 ps.length k2,.slice ob bks.length kb] 42)).alloc (.cells #[] 51)) := by rw [Hid,hW1,hW0]
  rw [<- hW1] at own0 bd0 kW;unfold maxLen at hml;clear hW0 hW1 hn hf own hok hsp d0 z0 kS
  go_enter Tryz.func19,Tryz.ntmps19
  go_upto_region 2 with fail
  rw [<- HW1.out];clear HW1;have p0 := at_cell kW 0;have p1 := at_cell kW 1;have p2 := at_cell kW 2;have rd := (HOWN.out.below bd0).reads
  go_wp2_with fail
  refine (implShelfOk_any _ _ _ cs ps bks _ HN.out HF.out rd.p.c rd.p.p rd.b).mono ?_;rw [HOK.out];rintro e w1 ⟨rfl,b1⟩;have kW1 := (b1.block _ (heap_lt kW)).trans kW;have own1 := owns_below own0 b1;have hb1 : Below W0.heap.size W0 w1 := bw_call bd0 b1;have q1 := at_cell kW1 2;have zz := HK.out.2.2;have HZ : Hid (W0.heap.size = w.heap.size + 1) := zz;rw [zz] at own1;clear p0 p1 p2 rd own0 bd0 b1 kW zz;cases ok
  · have HE : Hid (sp = []) := by rw [Hid,<- HSP.out];exact shown_no HOK.out
    have HFF : Hid _ := And.intro ((OwnK.mk (bs := []) own1 (fun b hb => by cases hb)).mono (Nat.le_succ w.heap.size)) (HK.out.2.1.trans (hb1.mono (by have := HZ.out;omega)));clear own1 hb1
    go_wp2_with fail
    go_ret;exact ⟨_,_,[],rfl,HE.out.symm,HFF.out.1,List.Pairwise.nil,HFF.out.2⟩
  · have HE : Hid (sp = (bks.map Bk.pb).map (shownP ps)) := by rw [Hid,<- HSP.out];exact shown_yes HOK.out
    have hinv := (shelfOk_iff _).1 HOK.out;have HI : Hid (ShInv ⟨cs,ps,bks.map Bk.pb⟩) := hinv;have HFEW : Hid (bks.length <= 6) := by rw [Hid];have := hinv.few;simpa using this
    have own1' : w1.ownsRow W0.heap.size 51 5 (.slice (some ⟨w.heap.size + 1,0,none⟩) 0 0) 0 [] := by rw [HZ.out];exact own1
    clear hinv own1
    go_wp2_with fail
    go_loopw [3,13] (fun q i wr => ∃ (j g cp : Nat) (ms : List Pk),j <= bks.length /\ i = .int .i64 j /\ q = .slice (some ⟨g,0,none⟩) ms.length cp /\ ms.map Pk.pv = ((bks.take j).map Bk.pb).map (shownP ps) /\ OwnK W0.heap.size wr (.slice (some ⟨g,0,none⟩) ms.length cp) ms /\ ApartK ms /\ Below W0.heap.size W0 wr) (fun _ i _ => bks.length - (intOf i).toNat)
    case atStart => exact ⟨0,_,_,[],Nat.zero_le _,rfl,rfl,rfl,⟨own1',fun b hb => by simp at hb⟩,List.Pairwise.nil,hb1⟩
    case round =>
      clear own1' hb1 kW1 q1;obtain ⟨j,g,cp,ms,hj,rfl,rfl,hpl,ow,ap,hb⟩ := hrel;have HML : Hid (ms.length = j) := by have := congrArg List.length hpl;simp at this;rw [Hid];omega
      by_cases hlt : j < bks.length
      · have kSr := (hb.block _ (heap_lt HK.out.1)).trans HK.out.1
        have s0 := at_cell kSr 0;have s1 := at_cell kSr 1;have s2 := at_cell kSr 2;have HOR : Hid _ := HOWN.out.below hb;have hpt : ((bks.take (j + 1)).map Bk.pb).map (shownP ps) = ((bks.take j).map Bk.pb).map (shownP ps) ++ [shownP ps bks[j].pb] := by rw [List.take_succ_eq_append_getElem hlt,List.map_append,List.map_append];rfl
        have HP : Hid _ := And.intro hpl hpt;have HLT : Hid (j < bks.length) := hlt;have hinm := inv_name HI.out j hlt;have hipt := inv_parts HI.out j hlt;have hfj := HF.out _ (List.getElem_mem hlt)
        obtain ⟨x,hx⟩ : ∃ x,bks[j]'hlt = x := ⟨_,rfl⟩
        have HX : Hid (bks[j]'hlt = x) := hx
        have HSB : Hid (∀ W,OwnV base W (.slice o1 cs.length k1) (.slice o2 ps.length k2) (.slice ob bks.length kb) cs ps bks -> Calls Tryz.prog 55 #[.agg #[.slice o1 cs.length k1,.slice o2 ps.length k2,.slice ob bks.length kb],.int .i64 (j : Int)] W fun e w' => ∃ vv : Value,e = .returned (.agg #[.string x.nm,.int .i64 x.sz,vv,.bool x.fx,.int .i64 x.ep]) /\ w'.ownsRow W.heap.size 2 1 vv x.sz.toNat ((shownV ps x.rs x.sz.toNat).map (Value.int .i64)) /\ Below W.heap.size W w') := fun W ow => by
          have h := shownBookV_any base j _ _ _ cs ps bks W hlt hinm hfj hipt ow;rw [hx] at h;exact h
        clear hinm hipt hfj hx;obtain ⟨nm,sz,m,rs,fx,ep⟩ := x;simp only at HSB
        have HOW : Hid (OwnK W0.heap.size wr (.slice (some ⟨g,0,none⟩) ms.length cp) ms /\ ApartK ms /\ Below W0.heap.size W0 wr) := ⟨ow,ap,hb⟩
        have i1' : (j : Int) < (bks.length : Int) := by omega
        clear hpl hpt ow ap hb kSr
        go_wp2_with fail
        refine (HSB.out _ HOR.out).mono ?_;rintro e w5 ⟨vv,rfl,ov,b5⟩;obtain ⟨ovo,ovc,hvv⟩ := own_slice ov;have ow5 := HOW.out.1.below b5;have hb5 := bw_call HOW.out.2.2 b5
        have hap : ∀ b ∈ ms,∀ q,b.m.ownBlock = some q -> vv.ownBlock ≠ some q := fun b hbm q hq hv => by
          have h1 := ((HOW.out.1.maps b hbm).lt q hq).2;have h2 := (ov.lt q hv).1
          omega
        have hgl := (ow5.row.lt g rfl).1;have ov5 : w5.ownsRow W0.heap.size 2 1 vv (shownV ps rs sz.toNat).length ((shownV ps rs sz.toNat).flatMap intC) := by rw [flat_intC,shownV_len];exact owns_mono ov HOW.out.2.2.size
        subst hvv
        have HXX : Hid (OwnK W0.heap.size w5 (.slice (some ⟨g,0,none⟩) ms.length cp) ms /\ w5.ownsRow W0.heap.size 2 1 (.slice ovo sz.toNat ovc) (shownV ps rs sz.toNat).length ((shownV ps rs sz.toNat).flatMap intC) /\ Below W0.heap.size W0 w5 /\ W0.heap.size <= g /\ ApartK (ms ++ [(⟨nm,sz,.slice ovo sz.toNat ovc,shownV ps rs sz.toNat,fx,ep⟩ : Pk)])) := ⟨ow5,ov5,hb5,hgl,HOW.out.2.1.snoc _ hap⟩
        have HN6 : Hid (ms.length + 1 <= 6) := by have := HML.out;have := HFEW.out;rw [Hid];omega
        clear s0 s1 s2 b5 ov ow5 hb5 hap hgl ov5 HOW HOR HSB
        go_wp2_with (at_builtin;refine wpList_append_own _ rfl _ _ 24 rfl W0.heap.size 51 j0 (.agg #[.string ByteArray.empty,.int .i64 0,.slice none 0 0,.bool false,.int .i64 0]) 5 64 Tryz.underlying24 ji jz0 jz1 jz2 rfl (by decide) _ _ _ rfl (HXX.out.1.row.alloc _) ⟨w5.heap.size,0,none⟩ 1 1 (pkC ⟨nm,sz,.slice ovo sz.toNat ovc,shownV ps rs sz.toNat,fx,ep⟩) rfl rfl ?z1 ?z2 ?z3 ?z4 ?z5 ?_)
        case z1 => first | exact fun j u h => h | exact new_fiveK _ _ _ _ _ _ _
        case z2 => exact one_plain _ ⟨_,_,_,rfl⟩
        case z3 => have := HN6.out;unfold maxLen;omega
        case z4 => have := HN6.out;omega
        case z5 => have := HXX.out.2.2.1.size;simp at this ⊢;omega
        intro v'' w6 hown' hgrow' hnil';have own5 : w6.ownsRow W0.heap.size 51 5 v'' (ms ++ [(⟨nm,sz,.slice ovo sz.toNat ovc,shownV ps rs sz.toNat,fx,ep⟩ : Pk)]).length ((ms ++ [(⟨nm,sz,.slice ovo sz.toNat ovc,shownV ps rs sz.toNat,fx,ep⟩ : Pk)]).flatMap pkC) := by simpa using hown'
        obtain ⟨g',cp',hv'⟩ : ∃ g' cp',v'' = .slice (some ⟨g',0,none⟩) (ms ++ [(⟨nm,sz,.slice ovo sz.toNat ovc,shownV ps rs sz.toNat,fx,ep⟩ : Pk)]).length cp' := by
          rcases own5.2 with ⟨e,_⟩ | ⟨g',cp',_,e,_⟩
          · exact absurd e hnil'
          · exact ⟨g',cp',e⟩
        have row5 := HXX.out.1.row.alloc (.cells #[.string nm,.int .i64 sz,.slice ovo sz.toNat ovc,.bool fx,.int .i64 ep] 51)
        have mp5 : ∀ b ∈ ms ++ [(⟨nm,sz,.slice ovo sz.toNat ovc,shownV ps rs sz.toNat,fx,ep⟩ : Pk)],w6.ownsRow W0.heap.size 2 1 b.m b.rs.length (b.rs.flatMap intC) := fun b hbm => by
          rcases List.mem_append.1 hbm with y | y
          · exact own_grown ((HXX.out.1.maps b y).alloc _) row5 (by decide) hgrow'
          · simp only [List.mem_singleton] at y
            subst y;exact own_grown (HXX.out.2.1.alloc _) row5 (by decide) hgrow'
        have hb6 : Below W0.heap.size W0 w6 := (bw_alloc HXX.out.2.2.1).grown hgrow' (by have := HXX.out.2.2.1.size;simp at this ⊢;omega) (fun q hq => by cases hq;exact HXX.out.2.2.2.1);have hpl5 : (ms ++ [(⟨nm,sz,.slice ovo sz.toNat ovc,shownV ps rs sz.toNat,fx,ep⟩ : Pk)]).map Pk.pv = ((bks.take (j + 1)).map Bk.pb).map (shownP ps) := by rw [HP.out.2,<- HP.out.1,List.map_append,HX.out];rfl
        subst hv';have HO : Hid _ := And.intro hpl5 (And.intro (OwnK.mk own5 mp5) (And.intro HXX.out.2.2.2.2 hb6));clear hown' hgrow' hnil' own5 mp5 hb6 hpl5 row5 HXX HP
        go_wp2_with fail
        go_roundw
        case rel => exact ⟨j + 1,g',cp',_,by have := HLT.out;omega,by go_num,rfl,HO.out⟩
        case measure => simp [intOf];omega
      · have htk : bks.take j = bks := List.take_of_length_le (by omega)
        rw [htk] at hpl;have hnj : ¬ (j : Int) < (bks.length : Int) := by omega
        have HO : Hid (ms.map Pk.pv = sp /\ OwnK w.heap.size wr (.slice (some ⟨g,0,none⟩) ms.length cp) ms /\ ApartK ms /\ Below w.heap.size w wr) := ⟨by rw [HE.out];exact hpl,ow.mono (by have := HZ.out;omega),ap,HK.out.2.1.trans (hb.mono (by have := HZ.out;omega))⟩
        clear hpl ow ap hb
        go_wp2_with fail
        go_ret;exact ⟨_,_,ms,rfl,HO.out⟩
end Go.Proofs.YtcefcglonooelaaGreatDoor
namespace Go.Proofs.YtcefcglonooelaaGreatDoor
open Go.RowKit
set_option linter.unusedVariables false
set_option maxRecDepth 100000
structure OwnW (base : Nat) (w : World) (v1 v2 vb : Value) (cs ps : List Int) (bks : List Bk) : Prop where
  p : OwnP base w v1 v2 cs ps
  b : OwnB base w vb bks
theorem OwnW.below {base : Nat} {w w' : World} {v1 v2 vb : Value} {cs ps : List Int} {bks : List Bk} (h : OwnW base w v1 v2 vb cs ps bks) (k : Below w.heap.size w w') : OwnW base w' v1 v2 vb cs ps bks := ⟨h.p.below k,h.b.below k⟩
theorem OwnW.reads {base : Nat} {w : World} {v1 v2 vb : Value} {cs ps : List Int} {bks : List Bk} (h : OwnW base w v1 v2 vb cs ps bks) : RS w.heap.size w v1 v2 vb cs ps bks := ⟨h.p.reads,h.b.reads⟩
theorem OwnW.forms {base : Nat} {w : World} {v1 v2 vb : Value} {cs ps : List Int} {bks : List Bk} (h : OwnW base w v1 v2 vb cs ps bks) : ∃ o1 k1 o2 k2 ob kb,v1 = .slice o1 cs.length k1 /\ v2 = .slice o2 ps.length k2 /\ vb = .slice ob bks.length kb := h.reads.forms
theorem OwnW.box {base n : Nat} {w w' : World} {v1 v2 vb : Value} {cs ps : List Int} {bks : List Bk} {zs : Array Value} {T : TypeId} (h : OwnW base w v1 v2 vb cs ps bks) (k : w.heap[n]? = some (.cells zs T (0,0))) (u : Upto n w w') (h1 : T ≠ 2) (h2 : T ≠ 87) (h3 : T ≠ 129) : OwnW base w' v1 v2 vb cs ps bks := by
  have st : ∀ (e : TypeId) (kk m : Nat) (v : Value) (xs : List Value),T ≠ e -> w.ownsRow base e kk v m xs -> w'.ownsRow base e kk v m xs := fun e kk m v xs he hr => own_rng_not hr (fun q hq hqv => u.block q hq (fun hx => own_not_box hr k he (by rw [<- hx];exact hqv)))
  exact ⟨⟨st _ _ _ _ _ h1 h.p.c,st _ _ _ _ _ h1 h.p.p,h.p.apart⟩,⟨st _ _ _ _ _ h2 h.b.row,fun b hb => st _ _ _ _ _ h3 (h.b.maps b hb)⟩⟩
end Go.Proofs.YtcefcglonooelaaGreatDoor
