import Derived.Lib.LazyBuf
import Derived.Deep.DeepCutAuto
import Derived.Test.YtmnhnhjefocicaaGreatDoorM14
import Derived.Test.YtmnhnhjefocicaaGreatDoorM16
import Derived.Test.YtmnhnhjefocicaaGreatDoorM19
import Derived.Test.YtmnhnhjefocicaaGreatDoorM31
import Derived.Test.YtmnhnhjefocicaaGreatDoorM34
namespace Go.Proofs.YtmnhnhjefocicaaGreatDoor
open Go.RowKit
set_option linter.unusedVariables false
set_option maxRecDepth 100000
set_option maxHeartbeats 1600000 in
theorem cloneR_any (v : Value) (rs : List (Int × Int × Int)) (w : World) (hl : rs.length <= 1048576) (r : ReadsR 3 runC w.heap.size w v rs) :
    Calls Tryz.prog 187 #[v] w fun e w' => ∃ v' : Value,e = .returned v' /\ w'.ownsRow w.heap.size 149 3 v' rs.length (rs.flatMap runC) /\ Below w.heap.size w w' := by
  obtain ⟨i0,hi,hz0,hz1,hz2⟩ := info_parts Tryz.infoRun;have r0 := r;obtain ⟨o,cap,rfl,hm,hc,-⟩ := r;have qn : ∀ (n c : Nat) (w : World),(binOp .eql 94 (.slice o n c) (.slice none 0 0)).run Tryz.prog w = .ok (.bool o.isNone) w := fun n c w => run_eql_slice_nil w _ _ o _ _ Tryz.underlying94
  cases o with
  | none =>
    have h0 : rs = [] := by
      cases rs with
      | nil => rfl
      | cons a l => obtain ⟨_,_,h,_⟩ := hc 0 a rfl;cases h
    subst h0;clear hc
    go_enter Tryz.func187,Tryz.ntmps187
    go_wp2_with fail
    go_ret;exact ⟨_,rfl,World.ownsRow_nil _ _ _ _,Below.refl _ _⟩
  | some a =>
    have d0 : Below w.heap.size w (w.alloc (.cells #[] 149)) := bw_alloc (Below.refl _ _);have HSRC : Hid _ := flat_src runC_len (by decide) ((r0.below d0).mono d0.size);have HONE : Hid _ := runs_one rs;have HLEN : Hid ((rs.flatMap runC).length = rs.length * 3) := flat_length runC_len rs;have HM : Hid (0 + rs.length <= maxLen) := by rw [Hid];unfold maxLen;omega
    have HB : Hid ((0 + rs.length) * 24 <= 140737488355328) := by rw [Hid];omega
    have HS : Hid (w.heap.size <= (w.alloc (.cells #[] 149)).heap.size) := by rw [Hid];simp
    have HON : Hid ((w.alloc (.cells #[] 149)).ownsRow w.heap.size 149 3 (.slice (some ⟨w.heap.size,0,none⟩) 0 0) 0 []) := own_none w;clear hc r0 hm
    go_enter Tryz.func187,Tryz.ntmps187
    go_wp2_with (at_builtin;refine wpList_append_reads rfl _ _ 94 rfl w.heap.size 149 i0 (.agg #[.int .i64 0,.int .i64 0,.int .i64 0]) 3 24 Tryz.underlying94 hi hz0 hz1 hz2 rfl (by decide) (.slice (some ⟨w.heap.size,0,none⟩) 0 0) 0 [] rfl HON.out (some a) rs.length cap (rs.flatMap runC) rfl HLEN.out HSRC.out HONE.out HM.out HB.out HS.out ?_)
    intro v' w3 hown hgrow hnil;have HO : Hid (w3.ownsRow w.heap.size 149 3 v' rs.length (rs.flatMap runC)) := by rw [Hid];simpa using hown
    have b3 : Below w.heap.size w w3 := d0.grown hgrow (by simp) (fun q hq => by simp [Value.ownBlock] at hq;omega);clear hown hgrow hnil
    go_wp2_with fail
    go_ret;exact ⟨v',rfl,HO.out,b3⟩
set_option maxHeartbeats 1600000 in
theorem cloneB_any (v : Value) (rs : List Bk) (w : World) (hl : rs.length <= 1048576) (hms : ∀ b ∈ rs,∃ o k cap,b.m = .slice o k cap) (r : ReadsR 5 bookC w.heap.size w v rs) :
    Calls Tryz.prog 228 #[v] w fun e w' => ∃ v' : Value,e = .returned v' /\ w'.ownsRow w.heap.size 96 5 v' rs.length (rs.flatMap bookC) /\ Below w.heap.size w w' := by
  obtain ⟨i0,hi,hz0,hz1,hz2⟩ := info_parts Tryz.infoBook;have r0 := r;obtain ⟨o,cap,rfl,hm,hc,-⟩ := r;have qn : ∀ (n c : Nat) (w : World),(binOp .eql 40 (.slice o n c) (.slice none 0 0)).run Tryz.prog w = .ok (.bool o.isNone) w := fun n c w => run_eql_slice_nil w _ _ o _ _ Tryz.underlying40
  cases o with
  | none =>
    have h0 : rs = [] := by
      cases rs with
      | nil => rfl
      | cons a l => obtain ⟨_,_,h,_⟩ := hc 0 a rfl;cases h
    subst h0;clear hc
    go_enter Tryz.func228,Tryz.ntmps228
    go_wp2_with fail
    go_ret;exact ⟨_,rfl,World.ownsRow_nil _ _ _ _,Below.refl _ _⟩
  | some a =>
    have d0 : Below w.heap.size w (w.alloc (.cells #[] 96)) := bw_alloc (Below.refl _ _);have HSRC : Hid _ := flat_src bookC_len (by decide) ((r0.below d0).mono d0.size);have HONE : Hid _ := books_one rs hms;have HLEN : Hid ((rs.flatMap bookC).length = rs.length * 5) := flat_length bookC_len rs;have HM : Hid (0 + rs.length <= maxLen) := by rw [Hid];unfold maxLen;omega
    have HB : Hid ((0 + rs.length) * 64 <= 140737488355328) := by rw [Hid];omega
    have HS : Hid (w.heap.size <= (w.alloc (.cells #[] 96)).heap.size) := by rw [Hid];simp
    have HON : Hid ((w.alloc (.cells #[] 96)).ownsRow w.heap.size 96 5 (.slice (some ⟨w.heap.size,0,none⟩) 0 0) 0 []) := own_nobooks w;clear hc r0 hm
    go_enter Tryz.func228,Tryz.ntmps228
    go_wp2_with (at_builtin;refine wpList_append_reads rfl _ _ 40 rfl w.heap.size 96 i0 (.agg #[.string ByteArray.empty,.int .i64 0,.slice none 0 0,.bool false,.int .i64 0]) 5 64 Tryz.underlying40 hi hz0 hz1 hz2 rfl (by decide) (.slice (some ⟨w.heap.size,0,none⟩) 0 0) 0 [] rfl HON.out (some a) rs.length cap (rs.flatMap bookC) rfl HLEN.out HSRC.out HONE.out HM.out HB.out HS.out ?_)
    intro v' w3 hown hgrow hnil;have HO : Hid (w3.ownsRow w.heap.size 96 5 v' rs.length (rs.flatMap bookC)) := by rw [Hid];simpa using hown
    have b3 : Below w.heap.size w w3 := d0.grown hgrow (by simp) (fun q hq => by simp [Value.ownBlock] at hq;omega);clear hown hgrow hnil
    go_wp2_with fail
    go_ret;exact ⟨v',rfl,HO.out,b3⟩
theorem same_end {w w6 : World} {b0 b1 base : Nat} {nm : ByteArray} {sz : Int} {m m' : Value} {fx : Bool} {ep : Int} {z0 z1 z2 z3 z4 : Value} {n : Nat} {ys : List Value} (k0 : w6.heap[b0]? = some (.cells #[.string nm,.int .i64 sz,m,.bool fx,.int .i64 ep] 96 (0,0))) (k1 : w6.heap[b1]? = some (.cells #[z0,z1,z2,z3,z4] 96 (0,0))) (hne : b0 ≠ b1) (h0 : w.heap.size <= b0) (h1 : w.heap.size <= b1) (hl0 : b0 < base) (hl1 : b1 < base) (hb : w.heap.size <= base) (om : w6.ownsRow base 149 3 m' n ys) (d : Below w.heap.size w w6) :
    let W := (w6.setCell ⟨b0,0,none⟩ (.string nm)).setCell ⟨b0,2,none⟩ m'
    let V := ((((W.setCell ⟨b1,0,none⟩ (.string nm)).setCell ⟨b1,1,none⟩ (.int .i64 sz)).setCell ⟨b1,2,none⟩ m').setCell ⟨b1,3,none⟩ (.bool fx)).setCell ⟨b1,4,none⟩ (.int .i64 ep)
    W.heap[b0]? = some (.cells #[.string nm,.int .i64 sz,m',.bool fx,.int .i64 ep] 96 (0,0)) /\ W.heap[b1]? = some (.cells #[z0,z1,z2,z3,z4] 96 (0,0)) /\ V.heap[b1]? = some (.cells #[.string nm,.int .i64 sz,m',.bool fx,.int .i64 ep] 96 (0,0)) /\ V.ownsRow w.heap.size 149 3 m' n ys /\ Below w.heap.size w V := by
  intro W V;have uW : Upto b0 w6 W := ((Upto.refl _ _).setCell ⟨b0,0,none⟩ (.inl rfl) _).setCell ⟨b0,2,none⟩ (.inl rfl) _;have uV : Upto b1 W V := (((((Upto.refl _ _).setCell ⟨b1,0,none⟩ (.inl rfl) _).setCell ⟨b1,1,none⟩ (.inl rfl) _).setCell ⟨b1,2,none⟩ (.inl rfl) _).setCell ⟨b1,3,none⟩ (.inl rfl) _).setCell ⟨b1,4,none⟩ (.inl rfl) _;have kW : W.heap[b0]? = some (.cells #[.string nm,.int .i64 sz,m',.bool fx,.int .i64 ep] 96 (0,0)) := set_at (set_at k0 0 _) 2 _;have kW1 : W.heap[b1]? = some (.cells #[z0,z1,z2,z3,z4] 96 (0,0)) := (uW.block _ (heap_lt k1) (fun e => hne e.symm)).trans k1;have l6 := heap_lt k0;have z6 := uW.size;have d6 := d.size;exact ⟨kW,kW1,set_at (set_at (set_at (set_at (set_at kW1 0 _) 1 _) 2 _) 3 _) 4 _,owns_mono (ownsRow_upto (ownsRow_upto om uW hl0) uV hl1) hb,(d.trans (uW.toBelow d6 h0)).trans (uV.toBelow (by omega) h1)⟩
set_option maxHeartbeats 6400000 in
theorem sameBook_any (nm : ByteArray) (sz : Int) (m : Value) (rs : List (Int × Int × Int)) (fx : Bool) (ep : Int) (w : World) (hn : nm.size <= 1099511627776) (hl : rs.length <= 1048576) (r : ReadsR 3 runC w.heap.size w m rs) :
    Calls Tryz.prog 134 #[.agg #[.string nm,.int .i64 sz,m,.bool fx,.int .i64 ep]] w fun e w' => ∃ m' : Value,e = .returned (.agg #[.string nm,.int .i64 sz,m',.bool fx,.int .i64 ep]) /\ w'.ownsRow w.heap.size 149 3 m' rs.length (rs.flatMap runC) /\ Below w.heap.size w w' := by
  obtain ⟨o,cap,rfl⟩ := r.form;obtain ⟨W0,hW0,k0,k1,d0,z0⟩ := box2 w #[.string nm,.int .i64 sz,.slice o rs.length cap,.bool fx,.int .i64 ep] #[.string ⟨#[]⟩,.int .i64 0,.slice none 0 0,.bool false,.int .i64 0] 96 96;have HW0 : Hid (W0 = _) := hW0;have r0 : ReadsR 3 runC W0.drew.heap.size W0.drew (.slice o rs.length cap) rs := ((r.below d0).mono d0.size).below ((Below.refl _ _).drew);have l0 := heap_lt k0;have l1 := heap_lt k1;have S0 : W0.drew.cell? ⟨w.heap.size,0,none⟩ = some (.string nm) := at_cell k0 0;have S2 : W0.drew.cell? ⟨w.heap.size,2,none⟩ = some (.slice o rs.length cap) := at_cell k0 2;clear hW0 r
  go_enter Tryz.func134,Tryz.ntmps134
  go_wp2_with fail
  rw [<- HW0.out];clear HW0
  go_region_law (first
      | (go_simp;go_at_call 116;refine (clone_any nm _ hn).mono ?_;rintro e w5 ⟨rfl,b5⟩;have k50 := (b5.block _ (show w.heap.size < W0.heap.size by omega)).trans k0;have k51 := (b5.block _ (show w.heap.size + 1 < W0.heap.size by omega)).trans k1;have T0 := at_cell k50 0;have T2 := at_cell k50 2;have r5 := (r0.below b5).mono b5.size;dsimp only)
      | (go_simp;go_at_call 187;refine (cloneR_any _ rs _ hl r5).mono ?_;rintro e w6 ⟨m',rfl,om,b6⟩;obtain ⟨o6,c6,rfl⟩ := own_slice om;have k60 := (b6.block _ (heap_lt k50)).trans k50;have k61 := (b6.block _ (heap_lt k51)).trans k51;have U0 := at_cell k60 0;have U2 := at_cell k60 2;have f0 := at_open k60 0;have f2 := at_open k60 2;dsimp only))
  all_goals
    have l5 := b5.size;have HE : Hid _ := same_end (w := w) (m' := .slice o6 rs.length c6) k60 k61 (by omega) (Nat.le_refl _) (by omega) (show w.heap.size < w5.heap.size by have : W0.drew.heap.size = W0.heap.size := rfl;omega) (show w.heap.size + 1 < w5.heap.size by have : W0.drew.heap.size = W0.heap.size := rfl;omega) (by have : W0.drew.heap.size = W0.heap.size := rfl;have := d0.size;omega) om (bw_call (bw_call (bw_drew d0) b5) b6);have q0 := at_cell HE.out.1 0;have q1 := at_cell HE.out.1 1;have q2 := at_cell HE.out.1 2;have q3 := at_cell HE.out.1 3;have q4 := at_cell HE.out.1 4;have p0 := at_cell HE.out.2.1 0;have p1 := at_cell HE.out.2.1 1;have p2 := at_cell HE.out.2.1 2;have p3 := at_cell HE.out.2.1 3;have p4 := at_cell HE.out.2.1 4;obtain ⟨g0,g1,g2,g3,g4⟩ := o5 HE.out.2.1;clear U0 U2 f0 f2 T0 T2 S0 S2 k0 k1 k50 k51 k60 k61 om b5 b6 r0 r5
    go_wp2_with fail
    exact bodyPost_ret (v := .agg #[.string nm,.int .i64 sz,.slice o6 rs.length c6,.bool fx,.int .i64 ep]) (by simp [results,Tryz.results134,go_sem,at_cell HE.out.2.2.1]) rfl ⟨_,rfl,HE.out.2.2.2.1,HE.out.2.2.2.2⟩
theorem made_room (n : Nat) (hn : n <= 1048576) : ∃ M : Array Value,(∀ W : World,(Instr.makeSlice 40 (.int .i64 0) (.int .i64 (n : Int))).run Tryz.prog W = .ok (.slice (some ⟨W.heap.size,0,none⟩) 0 n) (W.alloc (.cells M 96))) /\
    ∀ (W : World) (base : Nat),base <= W.heap.size -> (W.alloc (.cells M 96)).ownsRow base 96 5 (.slice (some ⟨W.heap.size,0,none⟩) 0 n) 0 [] := by
  obtain ⟨i0,hi,hz0,hz1,hz2⟩ := info_parts Tryz.infoBook;refine ⟨madeCells (Value.agg #[.string ByteArray.empty,.int .i64 0,.slice none 0 0,.bool false,.int .i64 0]).cells (n * 5),fun W => ?_,fun W base hb => ?_⟩
  · have h := run_make (P := Tryz.prog) W 40 96 i0 (.agg #[.string ByteArray.empty,.int .i64 0,.slice none 0 0,.bool false,.int .i64 0]) Tryz.underlying40 hi hz0 .i64 .i64 0 (n : Int) (by omega) (by omega) (by rw [hz2];omega) (by omega)
    rw [hz1,Int.toNat_natCast] at h
    simpa using h
  · exact ⟨rfl,.inr ⟨_,n,_,rfl,hb,heap_alloc_new W _,Nat.zero_le _,by unfold maxLen;omega,by rw [size_madeCells],by simp⟩⟩
set_option maxHeartbeats 6400000 in
theorem sameShelf_any (v1 v2 vb : Value) (cs ps : List Int) (bks : List Bk) (w : World) (hc : cs.length <= 1048576) (hp : ps.length <= 1048576) (hb : bks.length <= 6) (hn : ∀ b ∈ bks,b.nm.size <= 1099511627776) (hr : ∀ b ∈ bks,b.rs.length <= 1048576) (r : RS w.heap.size w v1 v2 vb cs ps bks) :
    Calls Tryz.prog 75 #[.agg #[v1,v2,vb]] w fun e w' => ∃ (u1 u2 ub : Value) (ms : List Bk),e = .returned (.agg #[u1,u2,ub]) /\ ms.map Bk.pb = bks.map Bk.pb /\ OwnS w.heap.size w' u1 u2 ub cs ps ms /\ Below w.heap.size w w' := by
  obtain ⟨i0,hi,hz0,hz1,hz2⟩ := info_parts Tryz.infoBook;obtain ⟨o1,k1,o2,k2,ob,kb,rfl,rfl,rfl⟩ := r.forms;obtain ⟨W0,hW0,kA,kR,d0,z0⟩ := box2 w #[.slice o1 cs.length k1,.slice o2 ps.length k2,.slice ob bks.length kb] #[.slice none 0 0,.slice none 0 0,.slice none 0 0] 42 42;have HW0 : Hid (W0 = _) := hW0;have HN : Hid _ := hn;have HRL : Hid _ := hr;have r0 := (r.below d0).mono d0.size;obtain ⟨M,hmk,hown⟩ := made_room bks.length (by omega);have own0 := hown W0 W0.heap.size (Nat.le_refl _);have bd0 : Below W0.heap.size W0 (W0.alloc (.cells M 96)) := bw_alloc (Below.refl _ _);have l1 : w.heap.size + 1 < W0.heap.size := by omega
  have pA := at_cell kA 2;have pA' := (bd0.cell (p := ⟨w.heap.size,2,none⟩) (heap_lt kA)).trans pA;have z0a : w.heap.size + 1 + 1 <= W0.heap.size := by omega
  have own0' : (W0.alloc (.cells M 96)).ownsRow W0.heap.size 96 5 (.slice (some ⟨w.heap.size + 1 + 1,0,none⟩) 0 bks.length) 0 [] := by rw [<- z0];exact own0
  have rb := r0.b;obtain ⟨_,_,eb,mb,cb,-⟩ := rb.row;cases eb;have HC : Hid _ := five_cells cb;have RM : Hid _ := rb.maps;rw [hW0] at pA pA';clear hW0 z0 r hn hr hown own0 rb cb;unfold maxLen at mb
  go_enter Tryz.func75,Tryz.ntmps75
  go_wp2_with fail
  rw [<- HW0.out];clear HW0 pA pA' hmk;generalize W0.alloc (.cells M 96) = W1 at *
  go_loopw [3,13] (fun q i wr => ∃ (j g cp : Nat) (ms : List Bk),j <= bks.length /\ i = .int .i64 j /\ q = .slice (some ⟨g,0,none⟩) ms.length cp /\ ms.map Bk.pb = (bks.take j).map Bk.pb /\ OwnB W0.heap.size wr (.slice (some ⟨g,0,none⟩) ms.length cp) ms /\ ApartM ms /\ Below W0.heap.size W0 wr) (fun _ i _ => bks.length - (intOf i).toNat)
  case atStart => exact ⟨0,_,_,[],Nat.zero_le _,rfl,rfl,rfl,⟨own0',fun b hb => by simp at hb⟩,List.Pairwise.nil,bd0⟩
  case round =>
    clear own0' bd0;obtain ⟨j,g,cp,ms,hj,rfl,rfl,hpl,own,apa,hbw⟩ := hrel;have HML : Hid (ms.length = j) := by have := congrArg List.length hpl;simp at this;rw [Hid];omega
    by_cases hlt : j < bks.length
    · obtain ⟨g0,off,rfl,hg,a0,a1,a2,a3,a4⟩ := HC.out j hlt
      have rm := ((RM.out bks[j] (List.getElem_mem hlt)).below hbw).mono hbw.size;have rl := HRL.out bks[j] (List.getElem_mem hlt);have rn := HN.out bks[j] (List.getElem_mem hlt);have hpt : (bks.take (j + 1)).map Bk.pb = (bks.take j).map Bk.pb ++ [bks[j].pb] := by rw [List.take_succ_eq_append_getElem hlt,List.map_append];rfl
      obtain ⟨x,hx⟩ : ∃ x,bks[j] = x := ⟨_,rfl⟩
      rw [hx] at a0 a1 a2 a3 a4 rm rl rn hpt;clear hx;obtain ⟨nm,sz,m,rs,fx,ep⟩ := x;simp only at a0 a1 a2 a3 a4 rm rl rn;obtain ⟨o',cap',hm'⟩ := rm.form;subst hm';replace a0 := (hbw.cell (p := ⟨g0,off + j * 5,none⟩) hg).trans a0;replace a1 := (hbw.cell (p := ⟨g0,off + j * 5 + 1,none⟩) hg).trans a1;replace a2 := (hbw.cell (p := ⟨g0,off + j * 5 + 2,none⟩) hg).trans a2;replace a3 := (hbw.cell (p := ⟨g0,off + j * 5 + 3,none⟩) hg).trans a3;replace a4 := (hbw.cell (p := ⟨g0,off + j * 5 + 4,none⟩) hg).trans a4;have HP : Hid _ := And.intro hpl hpt;obtain ⟨WB,hWB,kB,dB,zB⟩ := box1 wr #[.string nm,.int .i64 sz,.slice o' rs.length cap',.bool fx,.int .i64 ep] 96;have HWB : Hid (WB = _) := hWB;have rmB := (rm.below dB).mono dB.size;have hbB := bw_call hbw dB;have ownB := own.below dB;have HW0B : Hid (W0.heap.size <= WB.heap.size) := hbB.size;have i0' : (0 : Int) <= (j : Int) := by omega
      have i1' : (j : Int) < (bks.length : Int) := by omega
      have HAP : Hid _ := apa;clear hWB zB rm own hbw hpl hpt dB apa
      go_wp2_with fail
      rw [<- HWB.out];clear HWB a0 a1 a2 a3 a4;refine (sameBook_any nm sz _ rs fx ep _ rn rl rmB).mono ?_;rintro e w5 ⟨m',rfl,om,b5⟩;obtain ⟨o3,cp3,hm3⟩ := own_slice om;subst hm3;have own5 := ownB.below b5;have hb5 := bw_call hbB b5;have hgl := (own5.row.lt g rfl).1;have HX : Hid _ := And.intro om (And.intro own5 (And.intro hb5 b5));have HOLD : Hid (∀ b ∈ ms,∀ g',b.m.ownBlock = some g' -> g' < WB.heap.size) := fun b hbm g' hg' => ((ownB.maps b hbm).lt g' hg').2
      have hown4 : w5.ownsRow W0.heap.size 96 5 (.slice (some ⟨g,0,none⟩) ms.length cp) ms.length (ms.flatMap bookC) := own5.row;have HN6 : Hid (ms.length + 1 <= 6) := by have := HML.out;rw [Hid];omega
      clear om own5 hb5 b5 ownB hbB rmB kB
      go_wp2_with (at_builtin;refine wpList_append_own _ rfl _ _ 40 rfl W0.heap.size 96 i0 (.agg #[.string ByteArray.empty,.int .i64 0,.slice none 0 0,.bool false,.int .i64 0]) 5 64 Tryz.underlying40 hi hz0 hz1 hz2 rfl (by decide) _ _ _ rfl (hown4.alloc _) ⟨w5.heap.size,0,none⟩ 1 1 (bookC ⟨nm,sz,.slice o3 rs.length cp3,rs,fx,ep⟩) rfl rfl ?c1 ?c2 ?c3 ?c4 ?c5 ?_)
      case c1 => exact new_five w5 ⟨nm,sz,.slice o3 rs.length cp3,rs,fx,ep⟩ 96
      case c2 => exact one_book _ ⟨_,_,_,rfl⟩
      case c3 => have := HN6.out;unfold maxLen;omega
      case c4 => have := HN6.out;omega
      case c5 => have := HX.out.2.2.1.size;simp at this ⊢;omega
      intro v'' w6 hown' hgrow' hnil';have own6 : w6.ownsRow W0.heap.size 96 5 v'' (ms ++ [(⟨nm,sz,.slice o3 rs.length cp3,rs,fx,ep⟩ : Bk)]).length ((ms ++ [(⟨nm,sz,.slice o3 rs.length cp3,rs,fx,ep⟩ : Bk)]).flatMap bookC) := by simpa using hown'
      obtain ⟨g',cp',hv'⟩ : ∃ g' cp',v'' = .slice (some ⟨g',0,none⟩) (ms ++ [(⟨nm,sz,.slice o3 rs.length cp3,rs,fx,ep⟩ : Bk)]).length cp' := by
        rcases own6.2 with ⟨e,_⟩ | ⟨g',cp',_,e,_⟩
        · exact absurd e hnil'
        · exact ⟨g',cp',e⟩
      have row5 := hown4.alloc (.cells #[.string nm,.int .i64 sz,.slice o3 rs.length cp3,.bool fx,.int .i64 ep] 96);have hbs := HX.out.2.2.1.size;have hbs2 := HX.out.2.2.2.size
      have mp5 : ∀ b ∈ ms ++ [(⟨nm,sz,.slice o3 rs.length cp3,rs,fx,ep⟩ : Bk)],w6.ownsRow W0.heap.size 149 3 b.m b.rs.length (b.rs.flatMap runC) := fun b hbm => by
        rcases List.mem_append.1 hbm with y | y
        · exact own_grown ((HX.out.2.1.maps b y).alloc _) row5 (by decide) hgrow'
        · simp only [List.mem_singleton] at y
          subst y;have h4 : w5.ownsRow W0.heap.size 149 3 (.slice o3 rs.length cp3) rs.length (rs.flatMap runC) := owns_mono HX.out.1 HW0B.out;exact own_grown (h4.alloc _) row5 (by decide) hgrow'
      have hb6 : Below W0.heap.size W0 w6 := (bw_alloc HX.out.2.2.1).grown hgrow' (by simp at hbs ⊢;omega) (fun q hq => by cases hq;exact hgl);have hpl5 : (ms ++ [(⟨nm,sz,.slice o3 rs.length cp3,rs,fx,ep⟩ : Bk)]).map Bk.pb = (bks.take (j + 1)).map Bk.pb := by rw [HP.out.2,<- HP.out.1,List.map_append];rfl
      have ap5 : ApartM (ms ++ [(⟨nm,sz,.slice o3 rs.length cp3,rs,fx,ep⟩ : Bk)]) := ApartM.snoc HAP.out _ (fun b hbm g' hg' hgy => by
        have h1 := HOLD.out b hbm g' hg';have h2 := (HX.out.1.lt g' hgy).1
        omega)
      subst hv';have HO : Hid _ := And.intro hpl5 (And.intro (OwnB.mk own6 mp5) (And.intro ap5 hb6));clear hown' hgrow' hnil' own6 mp5 hb6 hpl5 ap5 row5 hown4 HX HP HOLD HAP hbs hbs2
      go_wp2_with fail
      go_roundw
      case rel => exact ⟨j + 1,g',cp',_,by omega,by go_num,rfl,HO.out⟩
      case measure => simp [intOf] <;> omega
    · have htk : bks.take j = bks := List.take_of_length_le (by omega)
      rw [htk] at hpl;have kA2 := (hbw.block _ (heap_lt kA)).trans kA;have kR2 := (hbw.block _ (heap_lt kR)).trans kR
      have r2 := ((r0.below hbw).mono hbw.size)
      have hql : ¬ (j : Int) < (bks.length : Int) := by omega
      have p0 := at_cell kA2 0;have p1 := at_cell kA2 1;have HPL : Hid _ := And.intro hpl apa;clear htk hpl apa HC RM HN HRL
      go_wp2_with fail
      clear p0 p1;refine (samePool_any _ _ cs ps _ hc hp r2.p.c r2.p.p).mono ?_;rintro e w6 ⟨u1,u2,rfl,op,b6⟩;obtain ⟨p1,q1,p2,q2,e1,e2⟩ := op.forms;subst e1 e2;have kR3 := (b6.block _ (heap_lt kR2)).trans kR2;have own6 := own.below b6;have hb6 := bw_call hbw b6;have sz6 := hbw.size;have sz7 := b6.size;have HS : Hid _ := shelf_put (w := w) kR3 (by omega) (bw_call d0 hb6) (.slice p1 cs.length q1) (.slice p2 ps.length q2) (.slice (some ⟨g,0,none⟩) ms.length cp)
      have HF : Hid (OwnS w.heap.size _ (.slice p1 cs.length q1) (.slice p2 ps.length q2) (.slice (some ⟨g,0,none⟩) ms.length cp) cs ps ms) := ⟨(op.upto HS.out.2.1 (by omega)).mono (by omega),(own6.upto HS.out.2.1 (by omega)).mono (by omega),HPL.out.2⟩
      have q0 := at_cell kR3 0;have q1' := at_cell kR3 1;have q2' := at_cell kR3 2;have f0 := at_open kR3 0;have f1 := at_open kR3 1;have f2 := at_open kR3 2;clear op own6 hb6 kR3 kR2 kA2 own hbw b6 kA kR r0 r2 d0
      go_wp2_with fail
      exact bodyPost_ret (v := .agg #[.slice p1 cs.length q1,.slice p2 ps.length q2,.slice (some ⟨g,0,none⟩) ms.length cp]) (by simp [results,Tryz.results75,go_sem,at_cell HS.out.1]) rfl ⟨_,_,_,ms,rfl,HPL.out.1,HF.out,HS.out.2.2⟩
theorem apart_set {bks : List Bk} (h : ApartM bks) (i : Nat) (hi : i < bks.length) (y : Bk) (ha : ∀ j (hj : j < bks.length),j ≠ i -> ∀ g,y.m.ownBlock = some g -> bks[j].m.ownBlock ≠ some g) : ApartM (bks.set i y) := by
  refine List.pairwise_iff_getElem.2 (fun a b hA hB hab g hg => ?_);have hA' : a < bks.length := by simpa using hA
  have hB' : b < bks.length := by simpa using hB
  rw [List.getElem_set] at hg ⊢
  split at hg
  · rename_i e
    subst e;rw [if_neg (by omega)];exact ha b hB' (by omega) g hg
  · rename_i e
    split
    · rename_i e2
      subst e2;intro hy;exact ha a hA' (by omega) g hy hg
    · exact (List.pairwise_iff_getElem.1 h a b hA' hB' hab) g hg
theorem OwnS.answer {base c : Nat} {W W' : World} {v1 v2 vb : Value} {cs ps : List Int} {bks : List Bk} {xs : Array Value} (h : OwnS base W v1 v2 vb cs ps bks) (k : W.heap[c]? = some (.cells xs 42 (0,0))) (u : Upto c W W') : OwnS base W' v1 v2 vb cs ps bks := by
  have st : ∀ (e : TypeId) (kk n : Nat) (v : Value) (xs : List Value),42 ≠ e -> W.ownsRow base e kk v n xs -> W'.ownsRow base e kk v n xs := fun e kk n v xs he hr => own_rng_not hr (fun q hq hqv => u.block q hq (fun hx => own_not_box hr k he (by rw [<- hx];exact hqv)))
  exact ⟨⟨st _ _ _ _ _ (by decide) h.p.c,st _ _ _ _ _ (by decide) h.p.p,h.p.apart⟩,⟨st _ _ _ _ _ (by decide) h.b.row,fun b hb => st _ _ _ _ _ (by decide) (h.b.maps b hb)⟩,h.a⟩
set_option maxHeartbeats 6400000 in
theorem putBook_any (base i : Nat) (v1 v2 vb : Value) (cs ps : List Int) (bks : List Bk) (y : Bk) (w : World) (hbase : base <= w.heap.size) (hi : i < bks.length) (hl : bks.length <= 6) (own : OwnS base w v1 v2 vb cs ps bks) (hy : w.ownsRow base 149 3 y.m y.rs.length (y.rs.flatMap runC)) (ha : ∀ j (hj : j < bks.length),j ≠ i -> ∀ g,y.m.ownBlock = some g -> bks[j].m.ownBlock ≠ some g) :
    Calls Tryz.prog 211 #[.agg #[v1,v2,vb],.int .i64 i,.agg #[.string y.nm,.int .i64 y.sz,y.m,.bool y.fx,.int .i64 y.ep]] w fun e w' => ∃ ub : Value,e = .returned (.agg #[v1,v2,ub]) /\ OwnS base w' v1 v2 ub cs ps (bks.set i y) /\ Below w.heap.size w w' := by
  obtain ⟨o1,k1,o2,k2,ob,kb,rfl,rfl,rfl⟩ := own.forms;have HA : Hid _ := apart_set own.a i hi y ha;obtain ⟨om,cm,hym⟩ := own_slice hy;obtain ⟨W0,hW0,kA,kY,kR,d0,z0⟩ := box3 w #[.slice o1 cs.length k1,.slice o2 ps.length k2,.slice ob bks.length kb] #[.string y.nm,.int .i64 y.sz,.slice om y.rs.length cm,.bool y.fx,.int .i64 y.ep] #[.slice none 0 0,.slice none 0 0,.slice none 0 0] 42 96 42;have HW0 : Hid (W0 = _) := hW0;have own0 := own.below d0;have hy0 := owns_below hy d0;have z0a : w.heap.size + 1 + 1 < W0.heap.size := by omega
  have HMS : Hid (∀ b ∈ bks,∃ o k cap,b.m = .slice o k cap) := fun b hb => by obtain ⟨o,c,h⟩ := own_slice (own.b.maps b hb);exact ⟨o,_,c,h⟩
  rw [hym];clear hW0 z0 own hy ha
  go_enter Tryz.func211,Tryz.ntmps211
  go_wp2_with fail
  rw [<- HW0.out];clear HW0;refine (cloneB_any _ bks _ (by omega) HMS.out own0.b.reads.row).mono ?_;rintro e w1 ⟨ub,rfl,og,b1⟩
  obtain ⟨n,hn1⟩ : ∃ n,bks.length = n + 1 := ⟨bks.length - 1,by omega⟩
  obtain ⟨g,cap,hub⟩ : ∃ g cap,ub = .slice (some ⟨g,0,none⟩) bks.length cap := by
    have h := og;rw [hn1] at h ⊢;exact owns_form h
  subst hub;replace kA := (b1.block _ (heap_lt kA)).trans kA;replace kY := (b1.block _ (heap_lt kY)).trans kY;replace kR := (b1.block _ (heap_lt kR)).trans kR;have d1 := bw_call d0 b1;have own1 := own0.below b1;have hy1 := owns_below hy0 b1;have z1 := b1.size;have hgl := og.lt g rfl;obtain ⟨⟨t0,t1,t2,t3,t4⟩,f0,f1,f2,f3,f4⟩ := own_five og i hi
  obtain ⟨W2,hW2⟩ : ∃ W2 : World,W2 = ((((w1.setCell ⟨g,i * 5,none⟩ (.string y.nm)).setCell ⟨g,i * 5 + 1,none⟩ (.int .i64 y.sz)).setCell ⟨g,i * 5 + 2,none⟩ (.slice om y.rs.length cm)).setCell ⟨g,i * 5 + 3,none⟩ (.bool y.fx)).setCell ⟨g,i * 5 + 4,none⟩ (.int .i64 y.ep) := ⟨_,rfl⟩
  have HW2 : Hid (W2 = _) := hW2;have ob1 := own_book og i hi y;rw [hym,<- hW2] at ob1
  have u1 : Upto g w1 W2 := by
    rw [hW2];exact (((((Upto.refl _ _).setCell ⟨g,i * 5,none⟩ (.inl rfl) _).setCell ⟨g,i * 5 + 1,none⟩ (.inl rfl) _).setCell ⟨g,i * 5 + 2,none⟩ (.inl rfl) _).setCell ⟨g,i * 5 + 3,none⟩ (.inl rfl) _).setCell ⟨g,i * 5 + 4,none⟩ (.inl rfl) _
  clear hW2;have kA2 := (u1.block _ (heap_lt kA) (by omega)).trans kA;have kR2 := (u1.block _ (heap_lt kR) (by omega)).trans kR;have d2 : Below w.heap.size w W2 := d1.trans (u1.toBelow d1.size (by have := d0.size;omega))
  have mp2 : ∀ b ∈ bks.set i y,W2.ownsRow base 149 3 b.m b.rs.length (b.rs.flatMap runC) := fun b hb => by
    rcases List.mem_or_eq_of_mem_set hb with q | rfl
    · exact maps_book (owns_mono og (by have := d0.size;omega)) u1 (own1.b.maps b q)
    · exact maps_book (owns_mono og (by have := d0.size;omega)) u1 hy1
  have pl2 : OwnP base W2 (.slice o1 cs.length k1) (.slice o2 ps.length k2) cs ps := by
    have st : ∀ (v : Value) (n : Nat) (xs : List Value),w1.ownsRow base 2 1 v n xs -> W2.ownsRow base 2 1 v n xs := fun v n xs h => own_rng_not h (fun q hq hqv => u1.block q hq (fun hx => own_apart h og (by decide) g rfl (by rw [<- hx];exact hqv)))
    exact ⟨st _ _ _ own1.p.c,st _ _ _ own1.p.p,own1.p.apart⟩
  have HO : Hid _ := And.intro ob1 (And.intro mp2 (And.intro pl2 d2));have y0 := at_cell kY 0;have y1 := at_cell kY 1;have y2 := at_cell kY 2;have y3 := at_cell kY 3;have y4 := at_cell kY 4;have a0 := at_cell kA2 0;have a1 := at_cell kA2 1;have HS : Hid _ := shelf_put (w := w) kR2 (by omega) d2 (.slice o1 cs.length k1) (.slice o2 ps.length k2) (.slice (some ⟨g,0,none⟩) bks.length cap);have r0 := at_cell kR2 0;have r1 := at_cell kR2 1;have r2 := at_cell kR2 2;have e0 := at_open kR2 0;have e1 := at_open kR2 1;have e2 := at_open kR2 2;have i0 : (0 : Int) <= (i : Int) := by omega
  have i1 : (i : Int) < (bks.length : Int) := by omega
  have n1 : ¬ w.heap.size = g := by omega
  have n2 : ¬ g = w.heap.size := by omega
  have n3 : ¬ w.heap.size + 1 + 1 = g := by omega
  have n4 : ¬ g = w.heap.size + 1 + 1 := by omega
  have n5 : ¬ w.heap.size + 1 = g := by omega
  have n6 : ¬ g = w.heap.size + 1 := by omega
  have HF : Hid _ := OwnS.answer ⟨HO.out.2.2.1,⟨owns_mono HO.out.1 (by have := d0.size;omega),HO.out.2.1⟩,HA.out⟩ kR2 HS.out.2.1
  obtain ⟨x,hx⟩ : ∃ x,bks[i] = x := ⟨_,rfl⟩
  rw [hx] at t0 t1 t2 t3 t4;clear hx;obtain ⟨xn,xs,xm,xr,xf,xe⟩ := x;simp only at t0 t1 t2 t3 t4;clear ob1 mp2 pl2 d2 u1 kA kY kR kA2 kR2 og own0 own1 hy0 hy1 HO HA d0 d1 b1 hym hgl z1 z0a hn1 hbase hl
  go_upto_region 3 with fail
  rw [<- HW2.out];clear HW2 t0 t1 t2 t3 t4 f0 f1 f2 f3 f4 y0 y1 y2 y3 y4
  go_wp2_with fail
  exact bodyPost_ret (v := .agg #[.slice o1 cs.length k1,.slice o2 ps.length k2,.slice (some ⟨g,0,none⟩) bks.length cap]) (by simp [results,Tryz.results211,go_sem,at_cell HS.out.1]) rfl ⟨_,rfl,⟨HF.out.1,HF.out.2,HF.out.3⟩,HS.out.2.2⟩
end Go.Proofs.YtmnhnhjefocicaaGreatDoor
