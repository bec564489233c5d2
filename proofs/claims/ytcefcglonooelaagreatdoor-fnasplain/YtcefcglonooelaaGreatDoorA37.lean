import Derived.Test.YtcefcglonooelaaGreatDoorA10
import Derived.Test.YtcefcglonooelaaGreatDoorA16
import Derived.Test.YtcefcglonooelaaGreatDoorA25
import Derived.Test.YtcefcglonooelaaGreatDoorA26
import Derived.Test.YtcefcglonooelaaGreatDoorA33
import Derived.Test.YtcefcglonooelaaGreatDoorA35
import Derived.Test.YtcefcglonooelaaGreatDoorA36
namespace Go.Proofs.YtcefcglonooelaaGreatDoor
open Go.RowKit
set_option linter.unusedVariables false
theorem own_noplains (w : World) : (w.alloc (.cells #[] 51)).ownsRow w.heap.size 51 5 (.slice (some ⟨w.heap.size,0,none⟩) 0 0) 0 [] := World.ownsRow_lit w #[] 0 (Nat.le_refl _) (Nat.zero_le _) rfl
theorem pages_reads {w : World} {base g cap : Nat} {rs : List (Int × Int × Int)} (op : w.ownsRow base 2 1 (.slice (some ⟨g,0,none⟩) 16 cap) 16 ((pages rs).map (Value.int .i64))) : ReadsR 1 intC w.heap.size w (.slice (some ⟨g,0,none⟩) 16 cap) (pages rs) := by
  have h : w.ownsRow base 2 1 (.slice (some ⟨g,0,none⟩) 16 cap) (pages rs).length ((pages rs).flatMap intC) := by rw [flat_intC,pages_length];exact op
  exact ReadsR.of_own intC_len h
theorem one_plain (b : Pk) (h : ∃ o k cp,b.m = .slice o k cp) : ∀ u ∈ pkC b,u.oneCell' = true := fun u hu => by
  obtain ⟨o,k,cp,h⟩ := h;simp [pkC,h] at hu;rcases hu with rfl | rfl | rfl | rfl | rfl <;> rfl
set_option maxRecDepth 100000 in
set_option maxHeartbeats 6400000 in
theorem l9Shown_any (v1 v2 vb : Value) (cs ps : List Int) (bks : List Bk) (w : World) (hinv : ShInv ⟨cs,ps,bks.map Bk.pb⟩) (r1 : Reads w.heap.size w v1 (cs.map (Value.int .i64))) (r2 : Reads w.heap.size w v2 (ps.map (Value.int .i64))) (rb : ReadsB w.heap.size w vb bks) :
    Calls Tryz.prog 56 #[.agg #[v1,v2,vb]] w fun e w' => ∃ (v' : Value) (ms : List Pk),e = .returned v' /\ ms.map Pk.pv = (bks.map Bk.pb).map (shownP ps) /\ OwnK w.heap.size w' v' ms /\ Below w.heap.size w w' := by
  obtain ⟨i0,hi,hz0,hz1,hz2⟩ := info_parts Tryz.infoI64;obtain ⟨j0,ji,jz0,jz1,jz2⟩ := info_parts Tryz.infoPlain;have RM : Hid _ := rb.maps;have HFEW : Hid (bks.length <= 6) := by rw [Hid];have := hinv.few;simpa using this
  have HPART : Hid (∀ i (h : i < bks.length),mapOk bks[i].rs = true /\ (1 <= bks[i].sz /\ bks[i].sz <= 16) /\ ∀ k,k < 16 -> -1 <= (pages bks[i].rs).getD k 0 /\ (pages bks[i].rs).getD k 0 < ps.length) := fun i h => by
    have := shown_parts hinv i (by simpa using h)
    simpa [Bk.pb] using this
  obtain ⟨o1,cp1,rfl,-⟩ := r1;obtain ⟨o2,cp2,rfl,m2,c2,-⟩ := r2;obtain ⟨ob,cpb,rfl,mb,cb,-⟩ := rb.row;simp only [List.length_map] at m2 c2 ⊢;have C2 : Hid (∀ j u,(ps.map (Value.int .i64))[j]? = some u -> ∃ g off,o2 = some ⟨g,off,none⟩ /\ g < w.heap.size /\ w.cell? ⟨g,off + j,none⟩ = some u) := c2;have HC : Hid _ := five_cells cb;unfold maxLen at m2 mb;clear c2 cb rb hinv;obtain ⟨W0,hW0,kS,d0,z0⟩ := box1 w #[.slice o1 cs.length cp1,.slice o2 ps.length cp2,.slice ob bks.length cpb] 42;have own0 := own_noplains W0;have bd0 : Below W0.heap.size W0 (W0.alloc (.cells #[] 51)) := bw_alloc (Below.refl _ _);have HW0 : Hid (W0 = _) := hW0
  have HD0 : Hid (Below w.heap.size w W0 /\ W0.heap.size = w.heap.size + 1) := ⟨d0,z0⟩
  have HKS : Hid _ := kS;clear hW0 d0 z0 kS
  go_enter Tryz.func56,Tryz.ntmps56
  go_wp2_with fail
  rw [<- HW0.out];clear HW0;rw [show w.heap.size + 1 = W0.heap.size from HD0.out.2.symm];generalize W0.alloc (.cells #[] 51) = W1 at own0 bd0 ⊢
  go_loopw [3,4] (fun q i wr => ∃ (j g cp : Nat) (ms : List Pk),j <= bks.length /\ i = .int .i64 j /\ q = .slice (some ⟨g,0,none⟩) ms.length cp /\ ms.map Pk.pv = ((bks.take j).map Bk.pb).map (shownP ps) /\ OwnK W0.heap.size wr (.slice (some ⟨g,0,none⟩) ms.length cp) ms /\ Below W0.heap.size W0 wr) (fun _ i _ => bks.length - (intOf i).toNat)
  case atStart => exact ⟨0,_,_,[],Nat.zero_le _,rfl,rfl,rfl,⟨own0,fun b hb => by simp at hb⟩,bd0⟩
  case round =>
    rename World => wo
    clear own0 bd0;obtain ⟨j,g,cp,ms,hj,rfl,rfl,hpl,own,hb⟩ := hrel;have HML : Hid (ms.length = j) := by have := congrArg List.length hpl;simp at this;rw [Hid];omega
    have hb0 : Below w.heap.size w wo := HD0.out.1.trans (hb.mono (by have := HD0.out.2;omega));have hw1 : w.heap.size < wo.heap.size := by have := hb.size;have := HD0.out.2;omega
    have kSr := (hb.block w.heap.size (by have := HD0.out.2;omega)).trans HKS.out;have s1 := at_cell kSr 1;have s2 := at_cell kSr 2;by_cases hlt : j < bks.length
    · obtain ⟨g0,off,rfl,hg,a0,a1,a2,a3,a4⟩ := HC.out j hlt
      have rm := ((RM.out bks[j] (List.getElem_mem hlt)).below hb0).mono hb0.size;have hpart := HPART.out j hlt;have hpt : ((bks.take (j + 1)).map Bk.pb).map (shownP ps) = ((bks.take j).map Bk.pb).map (shownP ps) ++ [shownP ps bks[j].pb] := by rw [List.take_succ_eq_append_getElem hlt,List.map_append,List.map_append];rfl
      obtain ⟨x,hx⟩ : ∃ x,bks[j] = x := ⟨_,rfl⟩
      rw [hx] at a0 a1 a2 a3 a4 rm hpart hpt;clear hx;obtain ⟨nm,sz,m,rs,fx,ep⟩ := x;simp only at a0 a1 a2 a3 a4 rm hpart;obtain ⟨hmok,⟨hs1,hs2⟩,hpg⟩ := hpart;obtain ⟨om,cm,hmm⟩ := rm.form;subst hmm;obtain ⟨n,hn⟩ := Int.eq_ofNat_of_zero_le (show 0 <= sz by omega);subst hn;have hn16 : n <= 16 := by omega
      have HPG : Hid _ := hpg;have HP : Hid _ := And.intro hpl hpt;replace a0 := (hb0.cell (p := ⟨g0,off + j * 5,none⟩) hg).trans a0;replace a1 := (hb0.cell (p := ⟨g0,off + j * 5 + 1,none⟩) hg).trans a1;replace a2 := (hb0.cell (p := ⟨g0,off + j * 5 + 2,none⟩) hg).trans a2;replace a3 := (hb0.cell (p := ⟨g0,off + j * 5 + 3,none⟩) hg).trans a3;replace a4 := (hb0.cell (p := ⟨g0,off + j * 5 + 4,none⟩) hg).trans a4;obtain ⟨W2,hW2,kA,kP,d2,z2⟩ := box2 wo #[.string nm,.int .i64 (n : Int),.slice om rs.length cm,.bool fx,.int .i64 ep] #[.string nm,.int .i64 (n : Int),.slice none 0 0,.bool fx,.int .i64 ep] 87 51;have rm2 := (rm.below d2).mono d2.size;have u0 := at_cell kA 0;have u1 := at_cell kA 1;have u2 := at_cell kA 2;have u3 := at_cell kA 3;have u4 := at_cell kA 4;have HK2 : Hid _ := And.intro kA (And.intro kP (And.intro d2 z2));have HOWN : Hid _ := And.intro own (And.intro hb (And.intro hb0 kSr));obtain ⟨WA,hWA,kA1,dA,-⟩ := box1 wo #[.string nm,.int .i64 (n : Int),.slice om rs.length cm,.bool fx,.int .i64 ep] 87;have p0 := at_cell kA1 0;have p1 := at_cell kA1 1;have p3 := at_cell kA1 3;have p4 := at_cell kA1 4;have HW2 : Hid (W2 = _) := hW2;clear own hb hb0 kSr kA kP d2 z2 rm hpl hpt kA1 dA;subst hWA;clear hW2;have i0' : (0 : Int) <= (j : Int) := by omega
      have i1' : (j : Int) < (bks.length : Int) := by omega
      have HRM : Hid (ReadsR 3 runC W2.heap.size W2 (.slice om rs.length cm) rs) := rm2;have HMOK : Hid (mapOk rs = true) := hmok;clear rm2 hmok hpg;have HW2b := HW2.out;subst HW2b;clear HW2
      go_wp2_with fail
      refine (l5Pages_any _ rs _ HMOK.out HRM.out).mono ?_;rintro e w3 ⟨gp,cpp,rfl,op,b3⟩;obtain ⟨kA,kP,d2,z2⟩ := HK2.out;have d3 : Below wo.heap.size wo w3 := d2.trans (b3.mono d2.size);have kA3 := (b3.block _ (heap_lt kA)).trans kA;have kP3 := (b3.block _ (heap_lt kP)).trans kP;have hz3 : wo.heap.size + 1 < w3.heap.size := heap_lt kP3;have RP : Hid (ReadsR 1 intC w3.heap.size w3 (.slice (some ⟨gp,0,none⟩) 16 cpp) (pages rs)) := pages_reads op;have HGP : Hid (gp ≠ wo.heap.size + 1) := fun e => own_not_box op kP3 (by decide) (by rw [e];rfl)
      have H3 : Hid _ := And.intro kA3 (And.intro d3 hz3);have KP3 : Hid _ := kP3;clear op b3 kA kP d2 z2 d3 kA3 kP3 hz3 HK2 HRM u0 u1 u2 u3 u4 p0 p1 p3 p4 a0 a1 a2 a3 a4 s1 s2
      go_wp2_with fail
      go_loopw [8] (fun i WW => ∃ (k : Nat) (vv : Value),k <= n /\ i = .int .i64 k /\ WW.heap[wo.heap.size + 1]? = some (.cells #[.string nm,.int .i64 (n : Int),vv,.bool fx,.int .i64 ep] 51 (0,0)) /\ WW.ownsRow w3.heap.size 2 1 vv k ((shownV ps rs k).map (Value.int .i64)) /\ Upto (wo.heap.size + 1) w3 WW) (fun i _ => n - (intOf i).toNat)
      case atStart => exact ⟨0,_,Nat.zero_le _,rfl,KP3.out,World.ownsRow_nil _ _ _ _,Upto.refl _ _⟩
      case round =>
        obtain ⟨k,vv,hk,rfl,kP,ow,up⟩ := hrel;have HKP : Hid _ := kP;have HOW : Hid (wr.ownsRow w3.heap.size 2 1 vv k ((shownV ps rs k).map (Value.int .i64))) := ow;have HU : Hid _ := up;obtain ⟨own,hb,hb0,kSr⟩ := HOWN.out;obtain ⟨kA3,d3,hz3⟩ := H3.out;have upB : Below wo.heap.size w3 wr := up.toBelow (by omega) (by omega);have kAi := (up.block wo.heap.size (by omega) (by omega)).trans kA3;have kSi := (upB.block w.heap.size (by omega)).trans ((d3.block w.heap.size (by omega)).trans kSr);have u1 := at_cell kAi 1;have s1 := at_cell kSi 1;have HDI : Hid (Below w.heap.size w wr) := (hb0.trans (d3.mono hb0.size)).trans (upB.mono hb0.size);by_cases hkn : k < n
        · have HKN : Hid (k < n /\ n <= 16) := ⟨hkn,hn16⟩
          obtain ⟨og,ocp,hf,-,hcc,-⟩ := RP.out;simp only [Value.slice.injEq] at hf;obtain ⟨hf1,-,-⟩ := hf;obtain ⟨g1,of1,e1,l1,cc⟩ := one_cellK hcc k (by rw [pages_length];omega);rw [<- hf1] at e1;cases e1;have cpg := (up.cell (p := ⟨gp,0 + k,none⟩) l1 HGP.out).trans cc;have hgd : (pages rs)[k]'(by rw [pages_length];omega) = (pages rs).getD k 0 := by simp [show k < (pages rs).length by rw [pages_length];omega]
          have hpgk := HPG.out k (by omega)
          obtain ⟨pg,hpgv⟩ : ∃ pg,(pages rs).getD k 0 = pg := ⟨_,rfl⟩
          have HX0 : Hid (valAt ps rs k = if pg < 0 then 0 else ps.getD pg.toNat 0) := by rw [Hid,valAt,hpgv]
          rw [hgd,hpgv,Nat.zero_add] at cpg;rw [hpgv] at hpgk;have j0' : (0 : Int) <= (k : Int) := by omega
          have j1' : (k : Int) < 16 := by omega
          have j2' : (k : Int) < (n : Int) := by omega
          clear hcc cc hgd hpgv own hb hb0 kSr kA3 d3 upB kAi kSi kP ow up hf1;by_cases hpos : 0 <= pg
          · obtain ⟨pn,hpn⟩ := Int.eq_ofNat_of_zero_le hpos
            subst hpn;have hpl : pn < ps.length := by omega
            obtain ⟨g2,of2,e2,l2,cv⟩ := C2.out pn (.int .i64 ps[pn]) (by simp [hpl]);subst e2;replace cv := (HDI.out.cell (p := ⟨g2,of2 + pn,none⟩) l2).trans cv
            obtain ⟨x,hx⟩ : ∃ x,ps[pn] = x := ⟨_,rfl⟩
            have HX : Hid (valAt ps rs k = x) := by rw [Hid,HX0.out,if_neg (by omega),<- hx];simp [hpl]
            rw [hx] at cv;have q1 : (pn : Int) < (ps.length : Int) := by omega
            clear hx HX0
            go_wp2_with fail
            go_quiet (fail)
            have OWX : Hid ((wr.drewN nq).ownsRow w3.heap.size 2 1 vv k ((shownV ps rs k).map (Value.int .i64))) := HOW.out;have UX : Hid (Upto (wo.heap.size + 1) w3 (wr.drewN nq)) := HU.out.drewN nq;have pc2 := at_cell HKP.out 2
            go_wp2_with (at_builtin;refine wpList_append_own _ rfl _ _ 37 rfl w3.heap.size 2 i0 (.int .i64 0) 1 8 Tryz.underlying37 hi hz0 hz1 hz2 rfl (by decide) _ _ _ rfl (OWX.out.alloc _) ⟨wr.heap.size,0,none⟩ 1 1 [.int .i64 x] rfl rfl ?c1 ?c2 ?c3 ?c4 ?c5 ?_)
            case c1 => exact new_one _ _ _
            case c2 => first | rfl | (intro u hu;simp only [List.mem_singleton] at hu;subst hu;rfl)
            case c3 => have := HKN.out;unfold maxLen;omega
            case c4 => have := HKN.out;omega
            case c5 => have := HU.out.size;simp at this ⊢;omega
            intro v' w5 hown' hgrow' hnil';have hne : (some (wo.heap.size + 1) : Option Nat) ≠ vv.ownBlock := fun e => own_not_box HOW.out HKP.out (by decide) e.symm
            have k5 : w5.heap[wo.heap.size + 1]? = some (.cells #[.string nm,.int .i64 (n : Int),vv,.bool fx,.int .i64 ep] 51 (0,0)) := (hgrow'.block _ (by have := heap_lt HKP.out;simp;omega) hne).trans ((Below.heap_alloc _ _ _ (heap_lt HKP.out)).trans HKP.out);have k6 := set_at k5 2 v';have own5 : w5.ownsRow w3.heap.size 2 1 v' (k + 1) ((shownV ps rs (k + 1)).map (Value.int .i64)) := by rw [shownV_succ,HX.out,List.map_append];exact hown'
            have own6 := own_box own5 k5 (by decide) 2 v';have U6 : Upto (wo.heap.size + 1) w3 (w5.setCell ⟨wo.heap.size + 1,2,none⟩ v') := ((UX.out.alloc _).grown hgrow' (fun q hq => .inl (HOW.out.lt q hq).1)).setCell ⟨wo.heap.size + 1,2,none⟩ (.inl rfl) v';have c5 := at_cell k5 2;have f5 := at_open k5 2;obtain ⟨o5,cp5,hv5⟩ := own_slice own5;subst hv5;have HR : Hid _ := And.intro k6 (And.intro own6 U6);clear hown' hgrow' hnil' hne k5 k6 own5 own6 U6 HKP HOW HU OWX UX
            go_wp2_with fail
            go_roundw
            case rel => exact ⟨k + 1,_,by have := HKN.out;omega,by go_num,HR.out⟩
            case measure => simp [intOf];omega
          · obtain ⟨x,hx⟩ : ∃ x : Int,x = 0 := ⟨_,rfl⟩
            have HX : Hid (valAt ps rs k = x) := by rw [Hid,HX0.out,if_pos (by omega),hx]
            have q1 : ¬ (0 : Int) <= pg := hpos;have OWX : Hid (wr.ownsRow w3.heap.size 2 1 vv k ((shownV ps rs k).map (Value.int .i64))) := HOW.out;have UX : Hid (Upto (wo.heap.size + 1) w3 wr) := HU.out;have pc2 := at_cell HKP.out 2;subst hx;clear HX0
            go_wp2_with (at_builtin;refine wpList_append_own _ rfl _ _ 37 rfl w3.heap.size 2 i0 (.int .i64 0) 1 8 Tryz.underlying37 hi hz0 hz1 hz2 rfl (by decide) _ _ _ rfl (OWX.out.alloc _) ⟨wr.heap.size,0,none⟩ 1 1 [.int .i64 0] rfl rfl ?y1 ?y2 ?y3 ?y4 ?y5 ?_)
            case y2 => first | rfl | (intro u hu;simp only [List.mem_singleton] at hu;subst hu;rfl)
            case y3 => have := HKN.out;unfold maxLen;omega
            case y4 => have := HKN.out;omega
            case y5 => have := HU.out.size;simp at this ⊢;omega
            intro v' w5 hown' hgrow' hnil';have hne : (some (wo.heap.size + 1) : Option Nat) ≠ vv.ownBlock := fun e => own_not_box HOW.out HKP.out (by decide) e.symm
            have k5 : w5.heap[wo.heap.size + 1]? = some (.cells #[.string nm,.int .i64 (n : Int),vv,.bool fx,.int .i64 ep] 51 (0,0)) := (hgrow'.block _ (by have := heap_lt HKP.out;simp;omega) hne).trans ((Below.heap_alloc _ _ _ (heap_lt HKP.out)).trans HKP.out);have k6 := set_at k5 2 v';have own5 : w5.ownsRow w3.heap.size 2 1 v' (k + 1) ((shownV ps rs (k + 1)).map (Value.int .i64)) := by rw [shownV_succ,HX.out,List.map_append];exact hown'
            have own6 := own_box own5 k5 (by decide) 2 v';have U6 : Upto (wo.heap.size + 1) w3 (w5.setCell ⟨wo.heap.size + 1,2,none⟩ v') := ((UX.out.alloc _).grown hgrow' (fun q hq => .inl (HOW.out.lt q hq).1)).setCell ⟨wo.heap.size + 1,2,none⟩ (.inl rfl) v';have c5 := at_cell k5 2;have f5 := at_open k5 2;obtain ⟨o5,cp5,hv5⟩ := own_slice own5;subst hv5;have HR : Hid _ := And.intro k6 (And.intro own6 U6);clear hown' hgrow' hnil' hne k5 k6 own5 own6 U6 HKP HOW HU OWX UX
            go_wp2_with fail
            go_roundw
            case rel => exact ⟨k + 1,_,by have := HKN.out;omega,by go_num,HR.out⟩
            case measure => simp [intOf];omega
        · obtain rfl : k = n := by omega
          obtain ⟨ov,cv,hvv⟩ := own_slice HOW.out;have bo : Below wo.heap.size wo wr := d3.trans upB;have ownR := own.below bo;have hbR : Below W0.heap.size W0 wr := hb.trans (bo.mono hb.size)
          have ownV : wr.ownsRow W0.heap.size 2 1 vv (shownV ps rs k).length ((shownV ps rs k).flatMap intC) := by
            rw [flat_intC,shownV_len];exact owns_mono HOW.out (Nat.le_trans hb.size (Nat.le_trans d3.size (Nat.le_refl _)))
          subst hvv;have hgl := (ownR.row.lt g rfl).1
          have HXX : Hid (OwnK W0.heap.size wr (.slice (some ⟨g,0,none⟩) ms.length cp) ms /\ wr.ownsRow W0.heap.size 2 1 (.slice ov k cv) (shownV ps rs k).length ((shownV ps rs k).flatMap intC) /\ Below W0.heap.size W0 wr /\ W0.heap.size <= g) := ⟨ownR,ownV,hbR,hgl⟩
          have HN6 : Hid (ms.length + 1 <= 6) := by have := HML.out;have := HFEW.out;rw [Hid];omega
          have x0 := at_cell kP 0;have x1 := at_cell kP 1;have x2 := at_cell kP 2;have x3 := at_cell kP 3;have x4 := at_cell kP 4;have hnk : ¬ (k : Int) < (k : Int) := by omega
          clear kP ow up own hb hb0 kSr kA3 d3 hz3 upB kAi kSi bo ownR hbR ownV hgl HKP HOW HU
          go_wp2_with (at_builtin;refine wpList_append_own _ rfl _ _ 24 rfl W0.heap.size 51 j0 (.agg #[.string ByteArray.empty,.int .i64 0,.slice none 0 0,.bool false,.int .i64 0]) 5 64 Tryz.underlying24 ji jz0 jz1 jz2 rfl (by decide) _ _ _ rfl (HXX.out.1.row.alloc _) ⟨wr.heap.size,0,none⟩ 1 1 (pkC ⟨nm,(k : Int),.slice ov k cv,shownV ps rs k,fx,ep⟩) rfl rfl ?z1 ?z2 ?z3 ?z4 ?z5 ?_)
          case z1 => exact fun j u h => h
          case z2 => exact one_plain _ ⟨_,_,_,rfl⟩
          case z3 => have := HN6.out;unfold maxLen;omega
          case z4 => have := HN6.out;omega
          case z5 => have := HXX.out.2.2.1.size;simp at this ⊢;omega
          intro v'' w5 hown' hgrow' hnil';have own5 : w5.ownsRow W0.heap.size 51 5 v'' (ms ++ [(⟨nm,(k : Int),.slice ov k cv,shownV ps rs k,fx,ep⟩ : Pk)]).length ((ms ++ [(⟨nm,(k : Int),.slice ov k cv,shownV ps rs k,fx,ep⟩ : Pk)]).flatMap pkC) := by simpa using hown'
          obtain ⟨g',cp',hv'⟩ : ∃ g' cp',v'' = .slice (some ⟨g',0,none⟩) (ms ++ [(⟨nm,(k : Int),.slice ov k cv,shownV ps rs k,fx,ep⟩ : Pk)]).length cp' := by
            rcases own5.2 with ⟨e,_⟩ | ⟨g',cp',_,e,_⟩
            · exact absurd e hnil'
            · exact ⟨g',cp',e⟩
          have row5 := HXX.out.1.row.alloc (.cells #[.string nm,.int .i64 (k : Int),.slice ov k cv,.bool fx,.int .i64 ep] 51)
          have mp5 : ∀ b ∈ ms ++ [(⟨nm,(k : Int),.slice ov k cv,shownV ps rs k,fx,ep⟩ : Pk)],w5.ownsRow W0.heap.size 2 1 b.m b.rs.length (b.rs.flatMap intC) := fun b hbm => by
            rcases List.mem_append.1 hbm with y | y
            · exact own_grown ((HXX.out.1.maps b y).alloc _) row5 (by decide) hgrow'
            · simp only [List.mem_singleton] at y
              subst y;exact own_grown (HXX.out.2.1.alloc _) row5 (by decide) hgrow'
          have hb5 : Below W0.heap.size W0 w5 := (bw_alloc HXX.out.2.2.1).grown hgrow' (by have := HXX.out.2.2.1.size;simp at this ⊢;omega) (fun q hq => by cases hq;exact HXX.out.2.2.2);have hpl5 : (ms ++ [(⟨nm,(k : Int),.slice ov k cv,shownV ps rs k,fx,ep⟩ : Pk)]).map Pk.pv = ((bks.take (j + 1)).map Bk.pb).map (shownP ps) := by rw [HP.out.2,<- HP.out.1,List.map_append];rfl
          subst hv';have HO : Hid _ := And.intro hpl5 (And.intro (OwnK.mk own5 mp5) hb5);clear hown' hgrow' hnil' own5 mp5 hb5 hpl5 row5 HXX HP x0 x1 x2 x3 x4
          go_wp2_with fail
          go_roundw
          case rel => exact ⟨j + 1,g',cp',_,by omega,by go_num,rfl,HO.out⟩
          case measure => simp [intOf];omega
    · have htk : bks.take j = bks := List.take_of_length_le (by omega)
      rw [htk] at hpl;have hnj : ¬ (j : Int) < (bks.length : Int) := by omega
      have HO : Hid _ := And.intro hpl (And.intro (own.mono (base' := w.heap.size) (by have := HD0.out.2;omega)) hb0);clear hpl own hb hb0 HC RM
      go_wp2_with fail
      go_ret;exact ⟨_,rfl,ms,by rw [<- List.map_map];exact HO.out.1,HO.out.2⟩
theorem made_roomI (n : Nat) (hn : n <= 1048576) : ∃ M : Array Value,(∀ W : World,(Instr.makeSlice 37 (.int .i64 0) (.int .i64 (n : Int))).run Tryz.prog W = .ok (.slice (some ⟨W.heap.size,0,none⟩) 0 n) (W.alloc (.cells M 2))) /\
    ∀ (W : World) (base : Nat),base <= W.heap.size -> (W.alloc (.cells M 2)).ownsRow base 2 1 (.slice (some ⟨W.heap.size,0,none⟩) 0 n) 0 [] := by
  obtain ⟨i0,hi,hz0,hz1,hz2⟩ := info_parts Tryz.infoI64;refine ⟨madeCells (Value.int .i64 0).cells (n * 1),fun W => ?_,fun W base hb => ?_⟩
  · have h := run_make (P := Tryz.prog) W 37 2 i0 (.int .i64 0) Tryz.underlying37 hi hz0 .i64 .i64 0 (n : Int) (by omega) (by omega) (by rw [hz2];omega) (by omega)
    rw [hz1,Int.toNat_natCast] at h
    simpa using h
  · exact ⟨rfl,.inr ⟨_,n,_,rfl,hb,heap_alloc_new W _,Nat.zero_le _,by unfold maxLen;omega,by rw [size_madeCells],by simp⟩⟩
theorem page_at {rs : List (Int × Int × Int)} (hm : mapOk rs = true) (k : Nat) (hk : k < 16) : pageOf rs (k : Int) = (pages rs).getD k 0 := by
  rw [pageOf,if_pos ⟨hm,by omega,by omega⟩,Int.toNat_natCast]
end Go.Proofs.YtcefcglonooelaaGreatDoor
