import Derived.Deep.DeepCutAuto
import Derived.Deep.RegionHeld3
import Derived.Lib.LazyBuf
import Derived.Lib.AppendZeros
import Derived.Test.YtcefcglonooelaaGreatDoorA06
import Derived.Test.YtcefcglonooelaaGreatDoorA11
import Derived.Test.YtcefcglonooelaaGreatDoorA13
import Derived.Test.YtcefcglonooelaaGreatDoorA16
import Derived.Test.YtcefcglonooelaaGreatDoorA25
import Derived.Test.YtcefcglonooelaaGreatDoorA26
import Derived.Test.YtcefcglonooelaaGreatDoorA29
import Derived.Test.YtcefcglonooelaaGreatDoorA30
import Derived.Test.YtcefcglonooelaaGreatDoorA36
import Derived.Test.YtcefcglonooelaaGreatDoorA40
import Derived.Test.YtcefcglonooelaaGreatDoorA44
import Derived.Test.YtcefcglonooelaaGreatDoorA46
namespace Go.Proofs.YtcefcglonooelaaGreatDoor
open Go.RowKit
set_option linter.unusedVariables false
set_option maxRecDepth 100000
theorem made_roomP (n : Nat) (hn : n <= 1048576) : ∃ M : Array Value,(∀ W : World,(Instr.makeSlice 24 (.int .i64 0) (.int .i64 (n : Int))).run Tryz.prog W = .ok (.slice (some ⟨W.heap.size,0,none⟩) 0 n) (W.alloc (.cells M 51))) /\
    ∀ (W : World) (base : Nat),base <= W.heap.size -> (W.alloc (.cells M 51)).ownsRow base 51 5 (.slice (some ⟨W.heap.size,0,none⟩) 0 n) 0 [] := by
  obtain ⟨i0,hi,hz0,hz1,hz2⟩ := info_parts Tryz.infoPlain;refine ⟨madeCells (Value.agg #[.string ByteArray.empty,.int .i64 0,.slice none 0 0,.bool false,.int .i64 0]).cells (n * 5),fun W => ?_,fun W base hb => ?_⟩
  · have h := run_make (P := Tryz.prog) W 24 51 i0 (.agg #[.string ByteArray.empty,.int .i64 0,.slice none 0 0,.bool false,.int .i64 0]) Tryz.underlying24 hi hz0 .i64 .i64 0 (n : Int) (by omega) (by omega) (by rw [hz2];omega) (by omega)
    rw [hz1,Int.toNat_natCast] at h
    simpa using h
  · exact ⟨rfl,.inr ⟨_,n,_,rfl,hb,heap_alloc_new W _,Nat.zero_le _,by unfold maxLen;omega,by rw [size_madeCells],by simp⟩⟩
set_option maxHeartbeats 6400000 in
theorem ownPlains_any (v : Value) (bks : List Pk) (w : World) (hb : bks.length <= 6) (hn : ∀ b ∈ bks,b.nm.size <= 1099511627776) (hr : ∀ b ∈ bks,b.rs.length <= 1048576) (r : ReadsK w.heap.size w v bks) :
    Calls Tryz.prog 38 #[v] w fun e w' => ∃ (g cp : Nat) (ms : List Pk),e = .returned (.slice (some ⟨g,0,none⟩) ms.length cp) /\ ms.map Pk.pv = bks.map Pk.pv /\ OwnK w.heap.size w' (.slice (some ⟨g,0,none⟩) ms.length cp) ms /\ ApartK ms /\ Below w.heap.size w w' := by
  obtain ⟨i0,hi,hz0,hz1,hz2⟩ := info_parts Tryz.infoPlain;have HN : Hid _ := hn;have HRL : Hid _ := hr;have RM : Hid _ := r.maps;obtain ⟨ob,kb,rfl,mb,cb,-⟩ := r.row;have HC : Hid _ := five_cellsK cb;obtain ⟨M,hmk,hown⟩ := made_roomP bks.length (by omega);have own0 := hown w w.heap.size (Nat.le_refl _);have bd0 : Below w.heap.size w (w.alloc (.cells M 51)) := bw_alloc (Below.refl _ _);clear r hn hr hown cb;unfold maxLen at mb
  go_enter Tryz.func38,Tryz.ntmps38
  go_wp2_with fail
  clear hmk;generalize w.alloc (.cells M 51) = W1 at *
  go_loopw [3,11] (fun q i wr => ∃ (j g cp : Nat) (ms : List Pk),j <= bks.length /\ i = .int .i64 j /\ q = .slice (some ⟨g,0,none⟩) ms.length cp /\ ms.map Pk.pv = (bks.take j).map Pk.pv /\ OwnK w.heap.size wr (.slice (some ⟨g,0,none⟩) ms.length cp) ms /\ ApartK ms /\ Below w.heap.size w wr) (fun _ i _ => bks.length - (intOf i).toNat)
  case atStart => exact ⟨0,_,_,[],Nat.zero_le _,rfl,rfl,rfl,⟨own0,fun b hb => by simp at hb⟩,List.Pairwise.nil,bd0⟩
  case round =>
    clear own0 bd0;obtain ⟨j,g,cp,ms,hj,rfl,rfl,hpl,own,apa,hbw⟩ := hrel;have HML : Hid (ms.length = j) := by have := congrArg List.length hpl;simp at this;rw [Hid];omega
    by_cases hlt : j < bks.length
    · obtain ⟨g0,off,rfl,hg,a0,a1,a2,a3,a4⟩ := HC.out j hlt
      have rm := ((RM.out bks[j] (List.getElem_mem hlt)).below hbw).mono hbw.size;have rl := HRL.out bks[j] (List.getElem_mem hlt);have rn := HN.out bks[j] (List.getElem_mem hlt);have hpt : (bks.take (j + 1)).map Pk.pv = (bks.take j).map Pk.pv ++ [bks[j].pv] := by rw [List.take_succ_eq_append_getElem hlt,List.map_append];rfl
      obtain ⟨x,hx⟩ : ∃ x,bks[j] = x := ⟨_,rfl⟩
      rw [hx] at a0 a1 a2 a3 a4 rm rl rn hpt;clear hx;obtain ⟨nm,sz,m,rs,fx,ep⟩ := x;simp only at a0 a1 a2 a3 a4 rm rl rn;obtain ⟨o',cap',hm'⟩ := rm.form;subst hm';replace a0 := (hbw.cell (p := ⟨g0,off + j * 5,none⟩) hg).trans a0;replace a1 := (hbw.cell (p := ⟨g0,off + j * 5 + 1,none⟩) hg).trans a1;replace a2 := (hbw.cell (p := ⟨g0,off + j * 5 + 2,none⟩) hg).trans a2;replace a3 := (hbw.cell (p := ⟨g0,off + j * 5 + 3,none⟩) hg).trans a3;replace a4 := (hbw.cell (p := ⟨g0,off + j * 5 + 4,none⟩) hg).trans a4;have HP : Hid _ := And.intro hpl hpt;obtain ⟨WB,hWB,kB,dB,zB⟩ := box1 wr #[.string nm,.int .i64 sz,.slice o' rs.length cap',.bool fx,.int .i64 ep] 51;have HWB : Hid (WB = _) := hWB;have rmB := (rm.below dB).mono dB.size;have hbB := bw_call hbw dB;have ownB := own.below dB;have HW0B : Hid (w.heap.size <= WB.heap.size) := hbB.size;have i0' : (0 : Int) <= (j : Int) := by omega
      have i1' : (j : Int) < (bks.length : Int) := by omega
      have HAP : Hid _ := apa;clear hWB zB rm own hbw hpl hpt dB apa
      go_wp2_with fail
      rw [<- HWB.out];clear HWB a0 a1 a2 a3 a4;refine (ownPlain_any nm sz _ rs fx ep _ rn rl rmB).mono ?_;rintro e w5 ⟨m',rfl,om,b5⟩;obtain ⟨o3,cp3,hm3⟩ := own_slice om;subst hm3;have own5 := ownB.below b5;have hb5 := bw_call hbB b5;have hgl := (own5.row.lt g rfl).1;have HX : Hid _ := And.intro om (And.intro own5 (And.intro hb5 b5));have HOLD : Hid (∀ b ∈ ms,∀ g',b.m.ownBlock = some g' -> g' < WB.heap.size) := fun b hbm g' hg' => ((ownB.maps b hbm).lt g' hg').2
      have hown4 : w5.ownsRow w.heap.size 51 5 (.slice (some ⟨g,0,none⟩) ms.length cp) ms.length (ms.flatMap pkC) := own5.row;have HN6 : Hid (ms.length + 1 <= 6) := by have := HML.out;rw [Hid];omega
      clear om own5 hb5 b5 ownB hbB rmB kB
      go_wp2_with (at_builtin;refine wpList_append_own _ rfl _ _ 24 rfl w.heap.size 51 i0 (.agg #[.string ByteArray.empty,.int .i64 0,.slice none 0 0,.bool false,.int .i64 0]) 5 64 Tryz.underlying24 hi hz0 hz1 hz2 rfl (by decide) _ _ _ rfl (hown4.alloc _) ⟨w5.heap.size,0,none⟩ 1 1 (pkC ⟨nm,sz,.slice o3 rs.length cp3,rs,fx,ep⟩) rfl rfl ?c1 ?c2 ?c3 ?c4 ?c5 ?_)
      case c1 => exact new_five w5 ⟨nm,sz,.slice o3 rs.length cp3,[],fx,ep⟩ 51
      case c2 => exact one_plain _ ⟨_,_,_,rfl⟩
      case c3 => have := HN6.out;unfold maxLen;omega
      case c4 => have := HN6.out;omega
      case c5 => have := HX.out.2.2.1.size;simp at this ⊢;omega
      intro v'' w6 hown' hgrow' hnil';have own6 : w6.ownsRow w.heap.size 51 5 v'' (ms ++ [(⟨nm,sz,.slice o3 rs.length cp3,rs,fx,ep⟩ : Pk)]).length ((ms ++ [(⟨nm,sz,.slice o3 rs.length cp3,rs,fx,ep⟩ : Pk)]).flatMap pkC) := by simpa using hown'
      obtain ⟨g',cp',hv'⟩ : ∃ g' cp',v'' = .slice (some ⟨g',0,none⟩) (ms ++ [(⟨nm,sz,.slice o3 rs.length cp3,rs,fx,ep⟩ : Pk)]).length cp' := by
        rcases own6.2 with ⟨e,_⟩ | ⟨g',cp',_,e,_⟩
        · exact absurd e hnil'
        · exact ⟨g',cp',e⟩
      have row5 := hown4.alloc (.cells #[.string nm,.int .i64 sz,.slice o3 rs.length cp3,.bool fx,.int .i64 ep] 51);have hbs := HX.out.2.2.1.size;have hbs2 := HX.out.2.2.2.size
      have mp5 : ∀ b ∈ ms ++ [(⟨nm,sz,.slice o3 rs.length cp3,rs,fx,ep⟩ : Pk)],w6.ownsRow w.heap.size 2 1 b.m b.rs.length (b.rs.flatMap intC) := fun b hbm => by
        rcases List.mem_append.1 hbm with y | y
        · exact own_grown ((HX.out.2.1.maps b y).alloc _) row5 (by decide) hgrow'
        · simp only [List.mem_singleton] at y
          subst y;have h4 : w5.ownsRow w.heap.size 2 1 (.slice o3 rs.length cp3) rs.length (rs.flatMap intC) := owns_mono HX.out.1 HW0B.out;exact own_grown (h4.alloc _) row5 (by decide) hgrow'
      have hb6 : Below w.heap.size w w6 := (bw_alloc HX.out.2.2.1).grown hgrow' (by simp at hbs ⊢;omega) (fun q hq => by cases hq;exact hgl);have hpl5 : (ms ++ [(⟨nm,sz,.slice o3 rs.length cp3,rs,fx,ep⟩ : Pk)]).map Pk.pv = (bks.take (j + 1)).map Pk.pv := by rw [HP.out.2,<- HP.out.1,List.map_append];rfl
      have ap5 : ApartK (ms ++ [(⟨nm,sz,.slice o3 rs.length cp3,rs,fx,ep⟩ : Pk)]) := ApartK.snoc HAP.out _ (fun b hbm g' hg' hgy => by
        have h1 := HOLD.out b hbm g' hg';have h2 := (HX.out.1.lt g' hgy).1
        omega)
      subst hv';have HO : Hid _ := And.intro hpl5 (And.intro (OwnK.mk own6 mp5) (And.intro ap5 hb6));clear hown' hgrow' hnil' own6 mp5 hb6 hpl5 ap5 row5 hown4 HX HP HOLD HAP hbs hbs2
      go_wp2_with fail
      go_roundw
      case rel => exact ⟨j + 1,g',cp',_,by omega,by go_num,rfl,HO.out⟩
      case measure => simp [intOf] <;> omega
    · have htk : bks.take j = bks := List.take_of_length_le (by omega)
      rw [htk] at hpl;have hql : ¬ (j : Int) < (bks.length : Int) := by omega
      have HO : Hid _ := And.intro hpl (And.intro own (And.intro apa hbw));clear htk hpl apa HC RM HN HRL own hbw
      go_wp2_with fail
      go_ret;exact ⟨_,_,ms,rfl,HO.out⟩
theorem set_nameP {W : World} {c : Nat} {x0 x1 x2 x3 x4 : Value} {T : TypeId} (k : W.heap[c]? = some (.cells #[x0,x1,x2,x3,x4] T (0,0))) (y0 y3 y4 : Value) :
    (((W.setCell ⟨c,0,none⟩ y0).setCell ⟨c,3,none⟩ y3).setCell ⟨c,4,none⟩ y4).heap[c]? = some (.cells #[y0,x1,x2,y3,y4] T (0,0)) /\ Upto c W (((W.setCell ⟨c,0,none⟩ y0).setCell ⟨c,3,none⟩ y3).setCell ⟨c,4,none⟩ y4) :=
  ⟨set_at (set_at (set_at k 0 y0) 3 y3) 4 y4,(((Upto.refl _ _).setCell ⟨c,0,none⟩ (.inl rfl) _).setCell ⟨c,3,none⟩ (.inl rfl) _).setCell ⟨c,4,none⟩ (.inl rfl) _⟩
set_option maxHeartbeats 3200000 in
theorem copiedPlain_any (xn : ByteArray) (xz : Int) (xm : Value) (xr : List Int) (xf : Bool) (xe : Int) (k : Int) (nm ot : ByteArray) (at_ va ep : Int) (w : World) (hn : xn.size <= 1099511627776) (hot : ot.size <= 1099511627776) (hl : xr.length <= 1048576) (r : ReadsR 1 intC w.heap.size w xm xr) :
    Calls Tryz.prog 79 #[.agg #[.string xn,.int .i64 xz,xm,.bool xf,.int .i64 xe],.agg #[.int .i64 k,.string nm,.string ot,.int .i64 at_,.int .i64 va,.int .i64 ep]] w fun e w' => ∃ v' : Value,e = .returned (.agg #[.string ot,.int .i64 xz,v',.bool (k == 4),.int .i64 0]) /\ w'.ownsRow w.heap.size 2 1 v' xr.length (xr.flatMap intC) /\ Below w.heap.size w w' := by
  obtain ⟨om,cm,hmf⟩ := r.form;subst hmf
  obtain ⟨F,hF⟩ : ∃ F,(k == 4) = F := ⟨_,rfl⟩
  rw [hF];obtain ⟨W0,hW0,kP,kO,kR,d0,z0⟩ := box3 w #[.string xn,.int .i64 xz,.slice om xr.length cm,.bool xf,.int .i64 xe] #[.int .i64 k,.string nm,.string ot,.int .i64 at_,.int .i64 va,.int .i64 ep] #[.string ⟨#[]⟩,.int .i64 0,.slice none 0 0,.bool false,.int .i64 0] 51 26 51;have HW0 : Hid (W0 = _) := hW0;have r0 := (r.below d0).mono d0.size;clear hW0 r
  go_enter Tryz.func79,Tryz.ntmps79
  go_upto_region 1 with fail
  rw [<- HW0.out];clear HW0;have p0 := at_cell kP 0;have p1 := at_cell kP 1;have p2 := at_cell kP 2;have p3 := at_cell kP 3;have p4 := at_cell kP 4
  go_wp2_with fail
  clear p0 p1 p2 p3 p4;refine (ownPlain_any xn xz _ xr xf xe _ hn hl r0).mono ?_;rintro e w1 ⟨m,rfl,om1,b1⟩;obtain ⟨mo,mc,hm⟩ := own_slice om1;subst hm;obtain ⟨W1,hW1,kB,d1,z1⟩ := box1 w1 #[.string xn,.int .i64 xz,.slice mo xr.length mc,.bool xf,.int .i64 xe] 51;have HW1 : Hid (W1 = _) := hW1;have sz1 := b1.size;have kO1 := (d1.block _ (heap_lt ((b1.block _ (heap_lt kO)).trans kO))).trans ((b1.block _ (heap_lt kO)).trans kO);have kR1 := (d1.block _ (heap_lt ((b1.block _ (heap_lt kR)).trans kR))).trans ((b1.block _ (heap_lt kR)).trans kR);have hm1 := owns_mono (owns_below om1 d1) d0.size;have dW := bw_call (bw_call d0 b1) d1;have hz0 : w.heap.size + 1 + 1 + 1 <= w1.heap.size := by omega
  clear hW1 z1 z0 om1 b1 d1 kP kO kR d0 r0 sz1
  go_upto_region 2 with fail
  rw [<- HW1.out];clear HW1;have n1 : ¬ w1.heap.size = w.heap.size + 1 := by omega
  have n2 : ¬ w.heap.size + 1 = w1.heap.size := by omega
  go_cut [] (fun wx => wx.heap[w1.heap.size]? = some (.cells #[.string ot,.int .i64 xz,.slice mo xr.length mc,.bool F,.int .i64 0] 51 (0,0)) /\ wx.heap[w.heap.size + 1 + 1]? = some (.cells #[.string ⟨#[]⟩,.int .i64 0,.slice none 0 0,.bool false,.int .i64 0] 51 (0,0)) /\ wx.ownsRow w.heap.size 2 1 (.slice mo xr.length mc) xr.length (xr.flatMap intC) /\ Below w.heap.size w wx)
  case first =>
    have O2 : W1.drew.cell? ⟨w.heap.size + 1,2,none⟩ = some (.string ot) := at_cell kO1 2;have O0 : W1.drew.cell? ⟨w.heap.size + 1,0,none⟩ = some (.int .i64 k) := at_cell kO1 0
    go_region_law (go_simp;go_at_call 96;refine (clone_any ot _ hot).mono ?_;rintro e w5 ⟨rfl,b5⟩;have kO5 := (b5.block _ (heap_lt kO1)).trans kO1;have kB5 := (b5.block _ (heap_lt kB)).trans kB;have P0 := at_cell kO5 0;have q0 := at_cell kB5 0;have q3 := at_cell kB5 3;have q4 := at_cell kB5 4;have f0 := at_open kB5 0;have f3 := at_open kB5 3;have f4 := at_open kB5 4;dsimp only)
    all_goals
      have hp := set_nameP kB5 (.string ot) (.bool F) (.int .i64 0);have kR5 := (b5.block _ (heap_lt kR1)).trans kR1;have hm5 := owns_below (owns_below hm1 ((Below.refl _ W1).drew)) b5;have hls := dW.size;have HR : Hid _ := And.intro hp.1 (And.intro ((hp.2.block _ (heap_lt kR5) (by omega)).trans kR5) (And.intro (own_rng_not hm5 (fun q hq hqv => hp.2.block q hq (fun hx => own_not_box hm5 kB5 (by decide) (by rw [<- hx];exact hqv)))) ((bw_call (bw_drew dW) b5).trans (hp.2.toBelow (bw_call (bw_drew dW) b5).size (by omega)))));clear hp kR5 hm5 kO5 kB5 b5 hm1 dW kO1 kR1 kB O0 O2
      go_wp2_with fail
      go_meet
      exact HR.out
  case rest =>
    obtain ⟨kC,kD,ow,dd⟩ := hcut
    rename World => W2
    have HS : Hid _ := five_end (by omega) kD dd ow (.string ot) (.int .i64 xz) (.slice mo xr.length mc) (.bool F) (.int .i64 0);have a0 := at_cell kC 0;have a1 := at_cell kC 1;have a2 := at_cell kC 2;have a3 := at_cell kC 3;have a4 := at_cell kC 4;have b0 := at_cell kD 0;have b1 := at_cell kD 1;have b2 := at_cell kD 2;have b3 := at_cell kD 3;have b4 := at_cell kD 4;have c0 := at_open kD 0;have c1 := at_open kD 1;have c2 := at_open kD 2;have c3 := at_open kD 3;have c4 := at_open kD 4;clear kC kD dd ow kO1 kR1 kB hm1 dW
    go_wp2_with fail
    exact bodyPost_ret (v := .agg #[.string ot,.int .i64 xz,.slice mo xr.length mc,.bool F,.int .i64 0]) (by simp [results,Tryz.results79,go_sem,at_cell HS.out.1]) rfl ⟨_,rfl,HS.out.2.1,HS.out.2.2⟩
end Go.Proofs.YtcefcglonooelaaGreatDoor
namespace Go.Proofs.YtcefcglonooelaaGreatDoor
open Go.RowKit
set_option linter.unusedVariables false
set_option maxRecDepth 100000 in
set_option maxHeartbeats 6400000 in
theorem changedPlains_45 (base g cp i : Nat) (ms : List Pk) (k : Int) (nm ot : ByteArray) (at_ va ep : Int) (w : World) (hbase : base <= w.heap.size) (hi : i < ms.length) (hk : k = 4 \/ k = 5) (hl5 : ms.length <= 5) (hot : ot.size <= 1099511627776) (hs : (ms.map Pk.nm).Pairwise (fun x y => ltB x y = true)) (hnew : ∀ x ∈ ms,x.nm ≠ ot) (own : OwnK base w (.slice (some ⟨g,0,none⟩) ms.length cp) ms) (ap : ApartK ms) (hfp : findP ((ms.map Pk.pv).map Pv.pb) nm = i) (xn : ByteArray) (xz : Int) (xm : Value) (xr : List Int) (xf : Bool) (xe : Int) (hx : ms[i] = ⟨xn,xz,xm,xr,xf,xe⟩) (hxn : xn.size <= 1099511627776) (hxl : xr.length <= 1048576) :
    Calls Tryz.prog 40 #[.slice (some ⟨g,0,none⟩) ms.length cp,.agg #[.int .i64 k,.string nm,.string ot,.int .i64 at_,.int .i64 va,.int .i64 ep]] w fun e w' => ∃ (v' : Value) (ms' : List Pk),e = .returned (.tuple #[v',.int .i64 0]) /\ ms'.map Pk.pv = putV (ms.map Pk.pv) ⟨ot,xz,xr,k == 4,0⟩ /\ OwnK base w' v' ms' /\ ApartK ms' /\ Below base w w' := by
  have hl : ms.length <= 6 := by omega
  have hk1 : ¬ k = 1 := by omega
  have HX : Hid (ms[i] = ⟨xn,xz,xm,xr,xf,xe⟩) := hx;have HSR : Hid _ := hs;have HNW : Hid _ := hnew;have HAP : Hid _ := ap;have HK : Hid (k = 4 \/ k = 5) := hk;clear hx hs hnew ap hk;have hms' : ∀ b ∈ ms.map Pk.bk,∃ o k cap,b.m = .slice o k cap := fun b hb => by obtain ⟨x,hx,rfl⟩ := List.mem_map.1 hb;exact ⟨none,0,0,rfl⟩
  have HFB : Hid (∀ (v : Value) (w : World),ReadsR 5 bookC w.heap.size w v (ms.map Pk.bk) -> Calls Tryz.prog 76 #[v,.string nm] w fun e w' => e = .returned (.int .i64 (i : Int)) /\ Below w.heap.size w w') := fun v w r => by
    have h := implFindBook_any v (ms.map Pk.bk) nm w hms' r;rw [findB_P,bk_pb,hfp] at h;exact h
  have HWV : Hid (∀ (w : World) (r : ReadsK w.heap.size w (.slice (some ⟨g,0,none⟩) ms.length cp) ms),_) := fun w r => withoutValues_any _ ms w hl r
  obtain ⟨W0,hW0,kO,d0,z0⟩ := box1 w #[.int .i64 k,.string nm,.string ot,.int .i64 at_,.int .i64 va,.int .i64 ep] 26;have HW0 : Hid (W0 = _) := hW0;have own0 := own.below d0;have HR0 : Hid (ReadsK W0.heap.size W0 (.slice (some ⟨g,0,none⟩) ms.length cp) ms) := own0.reads;have z0a : w.heap.size < W0.heap.size := by omega
  have hb0 : base <= W0.heap.size := by omega
  clear hW0 z0 own hms' hfp
  go_enter Tryz.func40,Tryz.ntmps40
  go_wp2_with fail
  rw [<- HW0.out];clear HW0
  go_cut [6] (fun v wx => v = .int .i64 (i : Int) /\ Below W0.heap.size W0 wx)
  case first =>
    have HKeep : ∀ X,Below W0.heap.size W0 X -> (Below W0.heap.size W0 X /\ X.cell? ⟨w.heap.size,1,none⟩ = some (.string nm)) := fun X hb => by
      have x2 := (hb.block _ (heap_lt kO)).trans kO;exact ⟨hb,at_cell x2 1⟩
    have A1 : Below W0.heap.size W0 W0.drew := bw_drew (Below.refl _ _)
    go_region_held3 (fun X => Below W0.heap.size W0 X /\ X.cell? ⟨w.heap.size,1,none⟩ = some (.string nm))
      ((refine HKeep _ ?_;repeat (first | exact Below.refl _ _ | exact A3 | exact A4 | refine bw_drew ?_)))
      ((first
        | (go_at_call 46;refine (HWV.out _ ((HR0.out.below A1).mono A1.size)).mono ?_;rintro e w5 ⟨u5,rfl,og,b5⟩;have A3 : Below W0.heap.size W0 w5 := bw_call A1 b5;skip)
        | (go_at_call 76;refine (HFB.out _ _ (ReadsR.of_own bookC_len og)).mono ?_;rintro e w6 ⟨rfl,b6⟩;have A4 : Below W0.heap.size W0 w6 := bw_call A3 b6;skip)))
    all_goals
      go_wp2_with fail
      go_meet
      exact ⟨rfl,A4⟩
  case rest =>
    obtain ⟨rfl,bw⟩ := hcut
    rename World => W1
    replace kO := (bw.block _ (heap_lt kO)).trans kO;have own1 := own0.below bw;have d1 := bw_call d0 bw;have hb1 : base <= W1.heap.size := Nat.le_trans hb0 bw.size;have z1a : w.heap.size < W1.heap.size := Nat.lt_of_lt_of_le z0a bw.size;clear HFB HWV HR0 own0 d0 bw hb0 z0a;have q0 := at_cell kO 0;have hxm : W1.ownsRow base 2 1 xm xr.length (xr.flatMap intC) := by have h := own1.maps ms[i] (List.getElem_mem hi);rw [HX.out] at h;exact h
    obtain ⟨om,cm,hom⟩ := own_slice hxm;subst hom;obtain ⟨⟨t0,t1,t2,t3,t4⟩,-⟩ := own_fiveK own1.row i hi;rw [HX.out] at t0 t1 t2 t3 t4;simp only at t0 t1 t2 t3 t4;have hgl := (own1.row.lt g rfl).2;have i0 : (0 : Int) <= (i : Int) := by omega
    have i1 : (i : Int) < (ms.length : Int) := by omega
    have HKeep : ∀ X,Below W1.heap.size W1 X -> (Below W1.heap.size W1 X /\ X.cell? ⟨g,i * 5,none⟩ = some (.string xn) /\ X.cell? ⟨g,i * 5 + 1,none⟩ = some (.int .i64 xz) /\ X.cell? ⟨g,i * 5 + 2,none⟩ = some (.slice om xr.length cm) /\ X.cell? ⟨g,i * 5 + 3,none⟩ = some (.bool xf) /\ X.cell? ⟨g,i * 5 + 4,none⟩ = some (.int .i64 xe) /\ X.cell? ⟨w.heap.size,0,none⟩ = some (.int .i64 k) /\ X.cell? ⟨w.heap.size,1,none⟩ = some (.string nm) /\ X.cell? ⟨w.heap.size,2,none⟩ = some (.string ot) /\ X.cell? ⟨w.heap.size,3,none⟩ = some (.int .i64 at_) /\ X.cell? ⟨w.heap.size,4,none⟩ = some (.int .i64 va) /\ X.cell? ⟨w.heap.size,5,none⟩ = some (.int .i64 ep)) := fun X hb => by
      have x2 := (hb.block _ (heap_lt kO)).trans kO;exact ⟨hb,(hb.cell (p := ⟨g,i * 5,none⟩) hgl).trans t0,(hb.cell (p := ⟨g,i * 5 + 1,none⟩) hgl).trans t1,(hb.cell (p := ⟨g,i * 5 + 2,none⟩) hgl).trans t2,(hb.cell (p := ⟨g,i * 5 + 3,none⟩) hgl).trans t3,(hb.cell (p := ⟨g,i * 5 + 4,none⟩) hgl).trans t4,at_cell x2 0,at_cell x2 1,at_cell x2 2,at_cell x2 3,at_cell x2 4,at_cell x2 5⟩
    have HCP : Hid (∀ X : World,Below W1.heap.size W1 X -> Calls Tryz.prog 79 #[.agg #[.string xn,.int .i64 xz,.slice om xr.length cm,.bool xf,.int .i64 xe],.agg #[.int .i64 k,.string nm,.string ot,.int .i64 at_,.int .i64 va,.int .i64 ep]] X fun e w' => ∃ v' : Value,e = .returned (.agg #[.string ot,.int .i64 xz,v',.bool (k == 4),.int .i64 0]) /\ w'.ownsRow X.heap.size 2 1 v' xr.length (xr.flatMap intC) /\ Below X.heap.size X w') := fun X hb => copiedPlain_any xn xz _ xr xf xe k nm ot at_ va ep X hxn hot hxl (ReadsR.of_own intC_len (owns_below hxm hb))
    have HWP : Hid (∀ (X : World) (m' : Value) (A B : Nat) (X1 : World),Below W1.heap.size W1 X1 -> Below X1.heap.size X1 X -> X.ownsRow X1.heap.size 2 1 m' xr.length (xr.flatMap intC) -> Calls Tryz.prog 77 #[.slice (some ⟨g,0,none⟩) ms.length cp,.agg #[.string ot,.int .i64 xz,m',.bool (k == 4),.int .i64 0]] X fun e w' => ∃ ub : Value,e = .returned ub /\ OwnK base w' ub (insK ms ⟨ot,xz,m',xr,k == 4,0⟩) /\ ApartK (insK ms ⟨ot,xz,m',xr,k == 4,0⟩) /\ Below X.heap.size X w') := fun X m' A B X1 h1 h2 ow => by
      have hsz := h1.size;have hsz2 := h2.size;refine withPlain_any base _ ms ⟨ot,xz,m',xr,k == 4,0⟩ X (by omega) hl5 HSR.out HNW.out ((own1.below h1).below h2) HAP.out (owns_mono ow (by omega)) (fun x hx q hq hq2 => ?_);have e1 := (own1.maps x hx).lt q hq;have e2 := ow.lt q hq2
      omega
    clear t0 t1 t2 t3 t4;generalize hkb : (k == 4) = kb at *;have HKB : Hid ((k == 4) = kb) := hkb;clear hkb;have A1 : Below W1.heap.size W1 W1.drew := bw_drew (Below.refl _ _);have HD : Hid (Below w.heap.size w W1) := d1;clear d1 hxm own1 kO
    have hcase : ((k == 4) = true /\ kb = true) \/ ((k == 4) = false /\ (k == 5) = true /\ kb = false) := by
      rcases HK.out with h | h
      · exact .inl ⟨by simp [h],by rw [<- HKB.out];simp [h]⟩
      · exact .inr ⟨by simp [h],by simp [h],by rw [<- HKB.out];simp [h]⟩
    have hk1b : (k == 1) = false := by simpa using hk1
    clear hk1 HK HKB
    rcases hcase with ⟨e4,ekb⟩ | ⟨e4,e5,ekb⟩
    · subst ekb
      go_upto_region 7 with fail
      clear q0;have HQ4 : Hid _ := e4;clear e4
      try clear e5
      go_region_held3 (fun X => Below W1.heap.size W1 X /\ X.cell? ⟨g,i * 5,none⟩ = some (.string xn) /\ X.cell? ⟨g,i * 5 + 1,none⟩ = some (.int .i64 xz) /\ X.cell? ⟨g,i * 5 + 2,none⟩ = some (.slice om xr.length cm) /\ X.cell? ⟨g,i * 5 + 3,none⟩ = some (.bool xf) /\ X.cell? ⟨g,i * 5 + 4,none⟩ = some (.int .i64 xe) /\ X.cell? ⟨w.heap.size,0,none⟩ = some (.int .i64 k) /\ X.cell? ⟨w.heap.size,1,none⟩ = some (.string nm) /\ X.cell? ⟨w.heap.size,2,none⟩ = some (.string ot) /\ X.cell? ⟨w.heap.size,3,none⟩ = some (.int .i64 at_) /\ X.cell? ⟨w.heap.size,4,none⟩ = some (.int .i64 va) /\ X.cell? ⟨w.heap.size,5,none⟩ = some (.int .i64 ep))
        ((refine HKeep _ ?_;repeat (first | exact Below.refl _ _ | exact A3 | exact A4 | refine bw_drew ?_)))
        ((first
          | (go_at_call 79;refine (HCP.out _ A1).mono ?_;rintro e w5 ⟨u5,rfl,og,b5⟩;have A3 : Below W1.heap.size W1 w5 := bw_call A1 b5;obtain ⟨o5,c5,hu5⟩ := own_slice og;subst hu5;skip)
          | (go_at_call 77;refine (HWP.out _ _ 0 0 _ A1 b5 og).mono ?_;rintro e w6 ⟨u6,rfl,own6,ap6,b6⟩;have A4 : Below W1.heap.size W1 w6 := bw_call A3 b6;obtain ⟨o6,c6,hu6⟩ := own_slice own6.row;subst hu6;skip)))
      all_goals
        have HE : Hid _ := And.intro own6 (And.intro ap6 ((bw_call HD.out A4).mono hbase));have HPV : Hid _ := put_pv (ms := ms) rfl ⟨ot,xz,.slice o5 xr.length c5,xr,true,0⟩;clear own6 ap6 og
        go_wp2_with fail
        exact bodyPost_ret (v := .tuple #[.slice o6 (insK ms ⟨ot,xz,.slice o5 xr.length c5,xr,true,0⟩).length c6,.int .i64 0]) (by simp [results,Tryz.results40,go_sem]) rfl ⟨_,rfl,_,by rw [HQ4.out];exact HPV.out,HE.out.1,HE.out.2.1,HE.out.2.2⟩
    · subst ekb
      go_upto_region 7 with fail
      clear q0;have HQ4 : Hid _ := e4;clear e4
      try clear e5
      go_region_held3 (fun X => Below W1.heap.size W1 X /\ X.cell? ⟨g,i * 5,none⟩ = some (.string xn) /\ X.cell? ⟨g,i * 5 + 1,none⟩ = some (.int .i64 xz) /\ X.cell? ⟨g,i * 5 + 2,none⟩ = some (.slice om xr.length cm) /\ X.cell? ⟨g,i * 5 + 3,none⟩ = some (.bool xf) /\ X.cell? ⟨g,i * 5 + 4,none⟩ = some (.int .i64 xe) /\ X.cell? ⟨w.heap.size,0,none⟩ = some (.int .i64 k) /\ X.cell? ⟨w.heap.size,1,none⟩ = some (.string nm) /\ X.cell? ⟨w.heap.size,2,none⟩ = some (.string ot) /\ X.cell? ⟨w.heap.size,3,none⟩ = some (.int .i64 at_) /\ X.cell? ⟨w.heap.size,4,none⟩ = some (.int .i64 va) /\ X.cell? ⟨w.heap.size,5,none⟩ = some (.int .i64 ep))
        ((refine HKeep _ ?_;repeat (first | exact Below.refl _ _ | exact A3 | exact A4 | refine bw_drew ?_)))
        ((first
          | (go_at_call 79;refine (HCP.out _ A1).mono ?_;rintro e w5 ⟨u5,rfl,og,b5⟩;have A3 : Below W1.heap.size W1 w5 := bw_call A1 b5;obtain ⟨o5,c5,hu5⟩ := own_slice og;subst hu5;skip)
          | (go_at_call 77;refine (HWP.out _ _ 0 0 _ A1 b5 og).mono ?_;rintro e w6 ⟨u6,rfl,own6,ap6,b6⟩;have A4 : Below W1.heap.size W1 w6 := bw_call A3 b6;obtain ⟨o6,c6,hu6⟩ := own_slice own6.row;subst hu6;skip)))
      all_goals
        have HE : Hid _ := And.intro own6 (And.intro ap6 ((bw_call HD.out A4).mono hbase));have HPV : Hid _ := put_pv (ms := ms) rfl ⟨ot,xz,.slice o5 xr.length c5,xr,false,0⟩;clear own6 ap6 og
        go_wp2_with fail
        exact bodyPost_ret (v := .tuple #[.slice o6 (insK ms ⟨ot,xz,.slice o5 xr.length c5,xr,false,0⟩).length c6,.int .i64 0]) (by simp [results,Tryz.results40,go_sem]) rfl ⟨_,rfl,_,by rw [HQ4.out];exact HPV.out,HE.out.1,HE.out.2.1,HE.out.2.2⟩
end Go.Proofs.YtcefcglonooelaaGreatDoor
namespace Go.Proofs.YtcefcglonooelaaGreatDoor
open Go.RowKit
set_option linter.unusedVariables false
set_option maxRecDepth 100000
set_option maxHeartbeats 1600000 in
theorem growK_any (n : Nat) (hn : n <= 12) (w : World) :
    Calls Tryz.prog 129 #[.slice none 0 0,.int .i64 n] w fun e w' => ∃ v : Value,e = .returned v /\ w'.ownsRow w.heap.size 51 5 v 0 [] /\ Below w.heap.size w w' := by
  obtain ⟨i0,hi,hz0,hz1,hz2⟩ := info_parts Tryz.infoPlain;have h1 : ¬ ((n : Int) < 0) := by omega
  rcases Nat.eq_zero_or_pos n with h0 | hpos
  · subst h0
    go_enter Tryz.func129,Tryz.ntmps129
    go_wp2_with fail
    go_ret;exact ⟨_,rfl,World.ownsRow_nil _ _ _ _,Below.refl _ _⟩
  · have h2 : (0 : Int) < (n : Int) := by omega
    have hrz : ∀ ty,(Builtin.append_ #[24,3] ty #[.slice none 0 0,.int .i64 (n : Int)]).run Tryz.prog w = .ok (.slice (some ⟨w.heap.size,0,none⟩) n (grownCap w n 0 51)) (w.drew.alloc (.cells (Builtin.zeroCells (Value.agg #[.string ByteArray.empty,.int .i64 0,.slice none 0 0,.bool false,.int .i64 0]).cells n ++ Builtin.zeroCells (Value.agg #[.string ByteArray.empty,.int .i64 0,.slice none 0 0,.bool false,.int .i64 0]).cells (grownCap w n 0 51 - n)) 51)) := fun ty =>
      Lib.run_append_nil_zeros w 24 3 ty 51 i0 _ .i64 .i64 Tryz.underlying24 Tryz.underlying3 hi hz0 n hpos (by rw [hz1];omega) (by omega) (by rw [hz2];omega)
    have hG1 := grownCap_ge w n 0 51;have hG2 := grownCap_le_maxLen w n 0 51 (by unfold maxLen;omega);generalize grownCap w n 0 51 = G at hrz hG1 hG2
    have hown := World.ownsRow_made (base := w.heap.size) (e := 51) (size := 5) w.drew (Builtin.zeroCells (Value.agg #[.string ByteArray.empty,.int .i64 0,.slice none 0 0,.bool false,.int .i64 0]).cells n ++ Builtin.zeroCells (Value.agg #[.string ByteArray.empty,.int .i64 0,.slice none 0 0,.bool false,.int .i64 0]).cells (G - n)) G (Nat.le_refl _) hG2 (by
      rw [Array.size_append,size_zeroCells,size_zeroCells]
      show n * 5 + (G - n) * 5 = G * 5
      omega)
    have hb : Below w.heap.size w (w.drew.alloc (.cells (Builtin.zeroCells (Value.agg #[.string ByteArray.empty,.int .i64 0,.slice none 0 0,.bool false,.int .i64 0]).cells n ++ Builtin.zeroCells (Value.agg #[.string ByteArray.empty,.int .i64 0,.slice none 0 0,.bool false,.int .i64 0]).cells (G - n)) 51)) := bw_alloc (bw_drew (Below.refl _ _))
    obtain ⟨M,hM⟩ : ∃ M,M = Builtin.zeroCells (Value.agg #[.string ByteArray.empty,.int .i64 0,.slice none 0 0,.bool false,.int .i64 0]).cells n ++ Builtin.zeroCells (Value.agg #[.string ByteArray.empty,.int .i64 0,.slice none 0 0,.bool false,.int .i64 0]).cells (G - n) := ⟨_,rfl⟩
    rw [<- hM] at hown hb;simp only [<- hM] at hrz;clear hM;have HO : Hid _ := And.intro hown hb;clear hown hb;unfold maxLen at hG2
    go_enter Tryz.func129,Tryz.ntmps129
    go_wp2_with (at_builtin;refine Lib.wpList_append_run _ rfl _ _ _ _ rfl _ _ rfl rfl _ _ (hrz _) ?_)
    all_goals
      go_ret;exact ⟨_,rfl,HO.out.1,HO.out.2⟩
set_option maxHeartbeats 3200000 in
theorem concatK_any (c : Nat) (va vb : Value) (xs ys : List Pk) (w : World) (hl : xs.length + ys.length <= 12) (k0 : w.cell? ⟨c,0,none⟩ = some va) (k1 : w.cell? ⟨c,1,none⟩ = some vb) (hma : ∀ b ∈ xs,∃ o k cap,b.m = .slice o k cap) (hmb : ∀ b ∈ ys,∃ o k cap,b.m = .slice o k cap) (ra : ReadsR 5 pkC w.heap.size w va xs) (rb : ReadsR 5 pkC w.heap.size w vb ys) :
    Calls Tryz.prog 80 #[.slice (some ⟨c,0,none⟩) 2 2] w fun e w' => ∃ v : Value,e = .returned v /\ w'.ownsRow w.heap.size 51 5 v (xs ++ ys).length ((xs ++ ys).flatMap pkC) /\ Below w.heap.size w w' := by
  obtain ⟨i0,hi,hz0,hz1,hz2⟩ := info_parts Tryz.infoPlain;obtain ⟨oa,ca,rfl⟩ := ra.form;obtain ⟨ob,cb,rfl⟩ := rb.form;have HLX : Hid ((xs.flatMap pkC).length = xs.length * 5) := flat_length pkC_len xs;have HLY : Hid ((ys.flatMap pkC).length = ys.length * 5) := flat_length pkC_len ys;have HOX : Hid _ := plains_one xs hma;have HOY : Hid _ := plains_one ys hmb;have g1 : ¬ ((xs.length : Int) < 0) := by omega
  have g2 : ¬ ((xs.length : Int) + (ys.length : Int) < 0) := by omega
  have w2 : IntKind.i64.wrap ((xs.length : Int) + (ys.length : Int)) = (xs.length : Int) + (ys.length : Int) := by rw [IntKind.wrap_i64];omega
  have hgr : ∀ w : World,_ := fun w => growK_any (xs.length + ys.length) hl w
  rw [Int.natCast_add] at hgr;have RA : Hid (ReadsR 5 pkC w.heap.size w (.slice oa xs.length ca) xs) := ra;have RB : Hid (ReadsR 5 pkC w.heap.size w (.slice ob ys.length cb) ys) := rb
  have lc : c < w.heap.size := by
    rcases Nat.lt_or_ge c w.heap.size with q | q
    · exact q
    · simp [World.cell?,Array.getElem?_eq_none q] at k0
  have HM1 : Hid (0 + xs.length <= maxLen) := by rw [Hid];unfold maxLen;omega
  have HB1 : Hid ((0 + xs.length) * 64 <= 140737488355328) := by rw [Hid];omega
  have HM2 : Hid (xs.length + ys.length <= maxLen) := by rw [Hid];unfold maxLen;omega
  have HB2 : Hid ((xs.length + ys.length) * 64 <= 140737488355328) := by rw [Hid];omega
  clear ra rb
  go_enter Tryz.func80,Tryz.ntmps80
  go_wp2_with fail
  refine wp_loop_rounds 3 ?_;rw [rounds_succ]
  go_wp2_with fail
  rw [rounds_succ]
  go_wp2_with fail
  rw [rounds_succ]
  go_wp2_with fail
  refine (hgr _).mono ?_;rintro e w1 ⟨v1,rfl,ow1,b1⟩;have q0 := (b1.cell (p := ⟨c,0,none⟩) lc).trans k0;have q1 := (b1.cell (p := ⟨c,1,none⟩) lc).trans k1;have HSX : Hid _ := flat_src pkC_len (by decide) (RA.out.below b1);have hs1 := b1.size;clear k0 k1
  go_wp2_with fail
  refine wp_loop_rounds 3 ?_;rw [rounds_succ]
  go_wp2_with (at_builtin;refine wpList_append_reads rfl _ _ 24 rfl w.heap.size 51 i0 (.agg #[.string ByteArray.empty,.int .i64 0,.slice none 0 0,.bool false,.int .i64 0]) 5 64 Tryz.underlying24 hi hz0 hz1 hz2 rfl (by decide) v1 0 [] rfl ow1 oa xs.length ca (xs.flatMap pkC) rfl HLX.out HSX.out HOX.out HM1.out HB1.out hs1 ?_)
  intro v2 w2 ow2 grow2 nil2;have b2 : Below w.heap.size w w2 := b1.grown grow2 hs1 (fun q hq => (ow1.lt q hq).1);replace ow2 : w2.ownsRow w.heap.size 51 5 v2 xs.length (xs.flatMap pkC) := by simpa using ow2
  have p1 := (b2.cell (p := ⟨c,1,none⟩) lc).trans ((b1.cell (p := ⟨c,1,none⟩) lc).symm.trans q1);have HSY : Hid _ := flat_src pkC_len (by decide) (RB.out.below b2);have hs2 := b2.size;clear grow2 nil2 q0 q1 HSX
  go_wp2_with fail
  rw [rounds_succ]
  go_wp2_with (at_builtin;refine wpList_append_reads rfl _ _ 24 rfl w.heap.size 51 i0 (.agg #[.string ByteArray.empty,.int .i64 0,.slice none 0 0,.bool false,.int .i64 0]) 5 64 Tryz.underlying24 hi hz0 hz1 hz2 rfl (by decide) v2 xs.length (xs.flatMap pkC) rfl ow2 ob ys.length cb (ys.flatMap pkC) rfl HLY.out HSY.out HOY.out HM2.out HB2.out hs2 ?_)
  intro v3 w3 ow3 grow3 nil3;have b3 : Below w.heap.size w w3 := b2.grown grow3 hs2 (fun q hq => (ow2.lt q hq).1);have HO : Hid (w3.ownsRow w.heap.size 51 5 v3 (xs ++ ys).length ((xs ++ ys).flatMap pkC)) := by rw [Hid,List.length_append,List.flatMap_append];exact ow3
  clear grow3 nil3 p1 HSY ow3 ow2 ow1
  go_wp2_with fail
  rw [rounds_succ]
  go_wp2_with fail
  go_ret;exact ⟨_,rfl,HO.out,b3⟩
end Go.Proofs.YtcefcglonooelaaGreatDoor
