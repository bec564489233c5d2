import Derived.Deep.RegionHeld3
import Derived.Test.YtmnhnhjefocicaaGreatDoorM02
import Derived.Test.YtmnhnhjefocicaaGreatDoorM07
namespace Go.Proofs.YtmnhnhjefocicaaGreatDoor
open Go.RowKit
set_option linter.unusedVariables false
set_option maxRecDepth 100000
theorem toBook_end {w w1 : World} {b1 b2 base : Nat} {a0 a1 a2 a3 a4 : Value} {t : TypeId} {v : Value} {n : Nat} {xs : List Value} (h1 : w.heap.size <= b1) (h2 : w.heap.size <= b2) (hne : b1 ≠ b2) (l1 : b1 < base) (l2 : b2 < base) (l3 : w.heap.size <= base) (k1 : w1.heap[b1]? = some (.cells #[a0,a1,a2,a3,a4] t (0,0))) (own : w1.ownsRow base 149 3 v n xs) (d0 : Below w.heap.size w w1) (y2 y3 y4 x0 x1 x2 x3 x4 : Value) :
    ((((((((w1.setCell ⟨b2,2,none⟩ y2).setCell ⟨b2,3,none⟩ y3).setCell ⟨b2,4,none⟩ y4).setCell ⟨b1,0,none⟩ x0).setCell ⟨b1,1,none⟩ x1).setCell ⟨b1,2,none⟩ x2).setCell ⟨b1,3,none⟩ x3).setCell ⟨b1,4,none⟩ x4).heap[b1]? = some (.cells #[x0,x1,x2,x3,x4] t (0,0)) /\
    ((((((((w1.setCell ⟨b2,2,none⟩ y2).setCell ⟨b2,3,none⟩ y3).setCell ⟨b2,4,none⟩ y4).setCell ⟨b1,0,none⟩ x0).setCell ⟨b1,1,none⟩ x1).setCell ⟨b1,2,none⟩ x2).setCell ⟨b1,3,none⟩ x3).setCell ⟨b1,4,none⟩ x4).ownsRow w.heap.size 149 3 v n xs /\
    Below w.heap.size w ((((((((w1.setCell ⟨b2,2,none⟩ y2).setCell ⟨b2,3,none⟩ y3).setCell ⟨b2,4,none⟩ y4).setCell ⟨b1,0,none⟩ x0).setCell ⟨b1,1,none⟩ x1).setCell ⟨b1,2,none⟩ x2).setCell ⟨b1,3,none⟩ x3).setCell ⟨b1,4,none⟩ x4) := by
  have u : Upto b2 w1 (((w1.setCell ⟨b2,2,none⟩ y2).setCell ⟨b2,3,none⟩ y3).setCell ⟨b2,4,none⟩ y4) := (((Upto.refl _ _).setCell ⟨b2,2,none⟩ (.inl rfl) _).setCell ⟨b2,3,none⟩ (.inl rfl) _).setCell ⟨b2,4,none⟩ (.inl rfl) _;have e1 := (u.block _ (heap_lt k1) hne).trans k1;have e2 := ownsRow_upto own u l2;have e3 : Below w.heap.size w (((w1.setCell ⟨b2,2,none⟩ y2).setCell ⟨b2,3,none⟩ y3).setCell ⟨b2,4,none⟩ y4) := bw_set (bw_set (bw_set d0 h2 _) h2 _) h2 _;generalize ((w1.setCell ⟨b2,2,none⟩ y2).setCell ⟨b2,3,none⟩ y3).setCell ⟨b2,4,none⟩ y4 = W at *;have v : Upto b1 W (((((W.setCell ⟨b1,0,none⟩ x0).setCell ⟨b1,1,none⟩ x1).setCell ⟨b1,2,none⟩ x2).setCell ⟨b1,3,none⟩ x3).setCell ⟨b1,4,none⟩ x4) := (((((Upto.refl _ _).setCell ⟨b1,0,none⟩ (.inl rfl) _).setCell ⟨b1,1,none⟩ (.inl rfl) _).setCell ⟨b1,2,none⟩ (.inl rfl) _).setCell ⟨b1,3,none⟩ (.inl rfl) _).setCell ⟨b1,4,none⟩ (.inl rfl) _;exact ⟨set_five e1 x0 x1 x2 x3 x4,owns_mono (ownsRow_upto e2 v l1) l3,bw_five e3 h1 _ _ _ _ _⟩
set_option maxHeartbeats 1600000 in
theorem toBook_any (nm : ByteArray) (sz : Int) (m : Value) (rs : List (Int × Int × Int)) (fx : Bool) (ep : Int) (w : World) (hb : rs.length <= 1048576) (r : ReadsR 3 runC w.heap.size w m rs) :
    Calls Tryz.prog 130 #[.agg #[.string nm,.int .i64 sz,m,.bool fx,.int .i64 ep]] w fun e w' => ∃ g : Nat,e = .returned (.agg #[.string nm,.int .i64 sz,.slice (some ⟨g,0,none⟩) rs.length rs.length,.bool fx,.int .i64 ep]) /\ w'.ownsRow w.heap.size 149 3 (.slice (some ⟨g,0,none⟩) rs.length rs.length) rs.length (rs.flatMap runC) /\ Below w.heap.size w w' := by
  obtain ⟨o,cap,hm⟩ := r.form;obtain ⟨W1,hW0,k0,k1,k2,d0,z0⟩ := box3 w #[.string nm,.int .i64 sz,m,.bool fx,.int .i64 ep] #[.string ⟨#[]⟩,.int .i64 0,.slice none 0 0,.bool false,.int .i64 0] #[.string nm,.int .i64 sz,.slice none 0 0,.bool false,.int .i64 0] 163 96 96;have r0 := r.below d0;have z0a : w.heap.size + 1 + 1 + 1 <= W1.heap.size := by omega
  clear z0;subst hm;have HW0 : Hid _ := hW0;clear hW0 r
  go_enter Tryz.func130,Tryz.ntmps130
  go_wp2_with (fail)
  rw [<- HW0.out];clear HW0;refine (toRuns_any _ rs _ hb (r0.mono (by omega))).mono ?_;rintro e w1 ⟨rfl,own,b1⟩;replace k0 := (b1.block _ (by omega)).trans k0;replace k1 := (b1.block _ (by omega)).trans k1;replace k2 := (b1.block _ (by omega)).trans k2;replace d0 := bw_call d0 b1;have z2 := b1.size;clear b1 r0;have p3 := at_cell k0 3;have p4 := at_cell k0 4;obtain ⟨c0,c1,c2,c3,c4⟩ := c5 k2;have f2 := at_open k2 2;have f3 := at_open k2 3;have f4 := at_open k2 4;obtain ⟨q0,q1,q2,q3,q4⟩ := c5 k1;obtain ⟨g0,g1,g2,g3,g4⟩ := o5 k1;have HS : Hid _ := toBook_end (b1 := w.heap.size + 1) (b2 := w.heap.size + 1 + 1) (by omega) (by omega) (by omega) (by omega) (by omega) (by omega) k1 own d0 (.slice (some ⟨W1.heap.size,0,none⟩) rs.length rs.length) (.bool fx) (.int .i64 ep) (.string nm) (.int .i64 sz) (.slice (some ⟨W1.heap.size,0,none⟩) rs.length rs.length) (.bool fx) (.int .i64 ep);clear k0 k1 k2 own d0
  go_wp2_with fail
  exact bodyPost_ret (v := .agg #[.string nm,.int .i64 sz,.slice (some ⟨W1.heap.size,0,none⟩) rs.length rs.length,.bool fx,.int .i64 ep]) (by simp [results,Tryz.results130,go_sem,at_cell HS.out.1]) rfl ⟨_,rfl,HS.out.2.1,HS.out.2.2⟩
set_option maxHeartbeats 1600000 in
theorem eqBook_same (nm : ByteArray) (sz : Int) (m m' : Value) (rs : List (Int × Int × Int)) (fx : Bool) (ep : Int) (w : World) (r : ReadsR 3 runC w.heap.size w m rs) (r' : ReadsR 3 runC w.heap.size w m' rs) :
    Calls Tryz.prog 137 #[.agg #[.string nm,.int .i64 sz,m,.bool fx,.int .i64 ep],.agg #[.string nm,.int .i64 sz,m',.bool fx,.int .i64 ep]] w fun e w' => e = .returned (.bool true) /\ Below w.heap.size w w' := by
  obtain ⟨o,cap,rfl⟩ := r.form;obtain ⟨o',cap',rfl⟩ := r'.form;obtain ⟨W0,hW0,k0,k1,d0,z0⟩ := box2 w #[.string nm,.int .i64 sz,.slice o rs.length cap,.bool fx,.int .i64 ep] #[.string nm,.int .i64 sz,.slice o' rs.length cap',.bool fx,.int .i64 ep] 96 96;have r0 := (r.below d0).mono d0.size;have r1 := (r'.below d0).mono d0.size;have HW0 : Hid (W0 = _) := hW0;clear hW0 r r'
  go_enter Tryz.func137,Tryz.ntmps137
  go_wp2_with fail
  rw [<- HW0.out];clear HW0;refine (eqRuns_any _ _ rs rs _ r0 r1).mono ?_;rintro e w1 ⟨rfl,b⟩;replace k0 := (b.block _ (by omega)).trans k0;replace k1 := (b.block _ (by omega)).trans k1;replace d0 := bw_call d0 b;have p3 := at_cell k0 3;have p4 := at_cell k0 4;have q3 := at_cell k1 3;have q4 := at_cell k1 4;simp only [decide_true];clear r0 r1 b k0 k1;cases fx
  · go_wp2_with fail
    go_ret;exact ⟨rfl,d0⟩
  · go_wp2_with fail
    go_ret;exact ⟨rfl,d0⟩
def plainB (b : Bk) : ByteArray × Int × List (Int × Int × Int) × Bool × Int := (b.nm,b.sz,b.rs,b.fx,b.ep)
theorem plain_len {bs ms : List Bk} (h : ms.map plainB = bs.map plainB) : ms.length = bs.length := by simpa using congrArg List.length h
theorem plain_at {bs ms : List Bk} (h : ms.map plainB = bs.map plainB) (k : Nat) (h1 : k < ms.length) (h2 : k < bs.length) : plainB ms[k] = plainB bs[k] := by
  have e : (ms.map plainB)[k]? = (bs.map plainB)[k]? := by rw [h]
  simpa [h1,h2] using e
theorem five_cells {B : Nat} {w : World} {o : Option Addr} {bs : List Bk} (hc : ∀ i x,bs[i]? = some x -> ∃ g off,o = some ⟨g,off,none⟩ /\ g < B /\ ∀ j u,(bookC x)[j]? = some u -> w.cell? ⟨g,off + i * 5 + j,none⟩ = some u) (i : Nat) (hi : i < bs.length) :
    ∃ g off,o = some ⟨g,off,none⟩ /\ g < B /\ w.cell? ⟨g,off + i * 5,none⟩ = some (.string bs[i].nm) /\ w.cell? ⟨g,off + i * 5 + 1,none⟩ = some (.int .i64 bs[i].sz) /\ w.cell? ⟨g,off + i * 5 + 2,none⟩ = some bs[i].m /\ w.cell? ⟨g,off + i * 5 + 3,none⟩ = some (.bool bs[i].fx) /\ w.cell? ⟨g,off + i * 5 + 4,none⟩ = some (.int .i64 bs[i].ep) := by
  obtain ⟨g,off,e,hg,hx⟩ := hc i bs[i] (List.getElem?_eq_getElem hi);exact ⟨g,off,e,hg,hx 0 _ rfl,hx 1 _ rfl,hx 2 _ rfl,hx 3 _ rfl,hx 4 _ rfl⟩
theorem Tryz.infoBook : (Tryz.prog.info? 96).map (fun i => (i.zero,i.size,i.bytes)) = some (some (.agg #[.string ByteArray.empty,.int .i64 0,.slice none 0 0,.bool false,.int .i64 0]),5,64) := by kernel_rfl
def zeroBk : Bk := ⟨ByteArray.empty,0,.slice none 0 0,[],false,0⟩
theorem made_books (n : Nat) (hn : n <= 1048576) : ∃ M : Array Value,(∀ W : World,(Instr.makeSlice 40 (.int .i64 (n : Int)) (.int .i64 (n : Int))).run Tryz.prog W = .ok (.slice (some ⟨W.heap.size,0,none⟩) n n) (W.alloc (.cells M 96))) /\
    ∀ (W : World) (base : Nat),base <= W.heap.size -> (W.alloc (.cells M 96)).ownsRow base 96 5 (.slice (some ⟨W.heap.size,0,none⟩) n n) (List.replicate n zeroBk).length ((List.replicate n zeroBk).flatMap bookC) := by
  obtain ⟨i0,hi,hz0,hz1,hz2⟩ := info_parts Tryz.infoBook;have e := toList_made (cs := bookC) bookC_len (by omega) zeroBk (Value.agg #[.string ByteArray.empty,.int .i64 0,.slice none 0 0,.bool false,.int .i64 0]).cells rfl n;refine ⟨madeCells (Value.agg #[.string ByteArray.empty,.int .i64 0,.slice none 0 0,.bool false,.int .i64 0]).cells (n * 5),fun W => ?_,fun W base hb => ?_⟩
  · have h := run_make (P := Tryz.prog) W 40 96 i0 (.agg #[.string ByteArray.empty,.int .i64 0,.slice none 0 0,.bool false,.int .i64 0]) Tryz.underlying40 hi hz0 .i64 .i64 (n : Int) (n : Int) (by omega) (by omega) (by rw [hz2];omega) (by omega)
    rw [hz1,Int.toNat_natCast] at h
    simpa using h
  · have h := World.ownsRow_lit (base := base) (size := 5) (e := 96) W (madeCells (Value.agg #[.string ByteArray.empty,.int .i64 0,.slice none 0 0,.bool false,.int .i64 0]).cells (n * 5)) n hb (by unfold maxLen;omega) (by rw [size_madeCells])
    rw [e] at h
    rwa [List.length_replicate]
theorem own_book {w : World} {base g n cap : Nat} {xs : List Bk} (h : w.ownsRow base 96 5 (.slice (some ⟨g,0,none⟩) n cap) xs.length (xs.flatMap bookC)) (i : Nat) (hi : i < xs.length) (y : Bk) :
    (((((w.setCell ⟨g,i * 5,none⟩ (.string y.nm)).setCell ⟨g,i * 5 + 1,none⟩ (.int .i64 y.sz)).setCell ⟨g,i * 5 + 2,none⟩ y.m).setCell ⟨g,i * 5 + 3,none⟩ (.bool y.fx)).setCell ⟨g,i * 5 + 4,none⟩ (.int .i64 y.ep)).ownsRow base 96 5 (.slice (some ⟨g,0,none⟩) n cap) (xs.set i y).length ((xs.set i y).flatMap bookC) := by
  obtain ⟨x,hx⟩ : ∃ x,xs[i] = x := ⟨_,rfl⟩
  have hxi : xs[i]? = some x := by rw [List.getElem?_eq_getElem hi,hx]
  have h1 := own_put bookC_len h i 0 x ⟨y.nm,x.sz,x.m,x.rs,x.fx,x.ep⟩ (.string y.nm) hxi (by omega) rfl;have h2 := own_put bookC_len h1 i 1 ⟨y.nm,x.sz,x.m,x.rs,x.fx,x.ep⟩ ⟨y.nm,y.sz,x.m,x.rs,x.fx,x.ep⟩ (.int .i64 y.sz) (by simp [hi]) (by omega) rfl;have h3 := own_put bookC_len h2 i 2 ⟨y.nm,y.sz,x.m,x.rs,x.fx,x.ep⟩ ⟨y.nm,y.sz,y.m,x.rs,x.fx,x.ep⟩ y.m (by simp [hi]) (by omega) rfl;have h4 := own_put bookC_len h3 i 3 ⟨y.nm,y.sz,y.m,x.rs,x.fx,x.ep⟩ ⟨y.nm,y.sz,y.m,x.rs,y.fx,x.ep⟩ (.bool y.fx) (by simp [hi]) (by omega) rfl;have h5 := own_put bookC_len h4 i 4 ⟨y.nm,y.sz,y.m,x.rs,y.fx,x.ep⟩ y (.int .i64 y.ep) (by simp [hi]) (by omega) rfl;rw [List.set_set,List.set_set,List.set_set,List.set_set] at h5;exact h5
theorem own_five {w : World} {base g n cap : Nat} {xs : List Bk} (h : w.ownsRow base 96 5 (.slice (some ⟨g,0,none⟩) n cap) xs.length (xs.flatMap bookC)) (i : Nat) (hi : i < xs.length) :
    (w.cell? ⟨g,i * 5,none⟩ = some (.string xs[i].nm) /\ w.cell? ⟨g,i * 5 + 1,none⟩ = some (.int .i64 xs[i].sz) /\ w.cell? ⟨g,i * 5 + 2,none⟩ = some xs[i].m /\ w.cell? ⟨g,i * 5 + 3,none⟩ = some (.bool xs[i].fx) /\ w.cell? ⟨g,i * 5 + 4,none⟩ = some (.int .i64 xs[i].ep)) /\ w.frozen? ⟨g,i * 5,none⟩ = false /\ w.frozen? ⟨g,i * 5 + 1,none⟩ = false /\ w.frozen? ⟨g,i * 5 + 2,none⟩ = false /\ w.frozen? ⟨g,i * 5 + 3,none⟩ = false /\ w.frozen? ⟨g,i * 5 + 4,none⟩ = false := by
  obtain ⟨a0,b0⟩ := own_cell bookC_len h i 0 _ (List.getElem?_eq_getElem hi) (by omega);obtain ⟨a1,b1⟩ := own_cell bookC_len h i 1 _ (List.getElem?_eq_getElem hi) (by omega);obtain ⟨a2,b2⟩ := own_cell bookC_len h i 2 _ (List.getElem?_eq_getElem hi) (by omega);obtain ⟨a3,b3⟩ := own_cell bookC_len h i 3 _ (List.getElem?_eq_getElem hi) (by omega);obtain ⟨a4,b4⟩ := own_cell bookC_len h i 4 _ (List.getElem?_eq_getElem hi) (by omega);exact ⟨⟨a0,a1,a2,a3,a4⟩,b0,b1,b2,b3,b4⟩
structure OwnB (base : Nat) (w : World) (v : Value) (bs : List Bk) : Prop where
  row : w.ownsRow base 96 5 v bs.length (bs.flatMap bookC)
  maps : ∀ b ∈ bs,w.ownsRow base 149 3 b.m b.rs.length (b.rs.flatMap runC)
theorem OwnB.reads {base : Nat} {w : World} {v : Value} {bs : List Bk} (h : OwnB base w v bs) : ReadsB w.heap.size w v bs := ⟨ReadsR.of_own bookC_len h.row,fun b hb => ReadsR.of_own runC_len (h.maps b hb)⟩
theorem OwnB.below {base : Nat} {w w' : World} {v : Value} {bs : List Bk} (h : OwnB base w v bs) (k : Below w.heap.size w w') : OwnB base w' v bs := ⟨owns_below h.row k,fun b hb => owns_below (h.maps b hb) k⟩
theorem OwnB.mono {base base' : Nat} {w : World} {v : Value} {bs : List Bk} (h : OwnB base w v bs) (k : base' <= base) : OwnB base' w v bs := ⟨owns_mono h.row k,fun b hb => owns_mono (h.maps b hb) k⟩
def ApartM (ms : List Bk) : Prop := ms.Pairwise (fun a b => ∀ g,a.m.ownBlock = some g -> b.m.ownBlock ≠ some g)
theorem ApartM.snoc {ms : List Bk} (h : ApartM ms) (y : Bk) (hy : ∀ b ∈ ms,∀ g,b.m.ownBlock = some g -> y.m.ownBlock ≠ some g) : ApartM (ms ++ [y]) :=
  List.pairwise_append.2 ⟨h,List.pairwise_singleton _ _,fun a ha b hb => by simp only [List.mem_singleton] at hb;subst hb;exact hy a ha⟩
set_option maxHeartbeats 3200000 in
theorem toBooksA_any (v : Value) (bs : List Bk) (w : World) (hn : bs.length <= 1048576) (hr : ∀ b ∈ bs,b.rs.length <= 1048576) (r : ReadsB w.heap.size w v bs) :
    Calls Tryz.prog 72 #[v] w fun e w' => ∃ ms : List Bk,e = .returned (.slice (some ⟨w.heap.size,0,none⟩) bs.length bs.length) /\ ms.map plainB = bs.map plainB /\ OwnB w.heap.size w' (.slice (some ⟨w.heap.size,0,none⟩) bs.length bs.length) ms /\ ApartM ms /\ Below w.heap.size w w' := by
  have RM : Hid _ := r.maps;have RL : Hid _ := hr;obtain ⟨o,cap,rfl,hm,hc,-⟩ := r.row;have HC : Hid _ := five_cells hc;obtain ⟨M,hmk,hown⟩ := made_books bs.length hn;have own0 := hown w w.heap.size (Nat.le_refl _);have bd0 : Below w.heap.size w (w.alloc (.cells M 96)) := bw_alloc (Below.refl _ _);clear hown hc hm r hr
  go_enter Tryz.func72,Tryz.ntmps72
  go_wp2_with fail
  generalize w.alloc (.cells M 96) = W0 at own0 bd0 ⊢;generalize hzs : List.replicate bs.length zeroBk = zs at own0;have hzl : zs.length = bs.length := by rw [<- hzs];simp
  clear hmk hzs
  go_loopw [4] (fun i wr => ∃ (j : Nat) (ms : List Bk),j <= bs.length /\ i = .int .i64 j /\ ms.map plainB = (bs.take j).map plainB /\ wr.ownsRow w.heap.size 96 5 (.slice (some ⟨w.heap.size,0,none⟩) bs.length bs.length) (ms ++ zs.drop j).length ((ms ++ zs.drop j).flatMap bookC) /\ (∀ b ∈ ms,wr.ownsRow (w.heap.size + 1) 149 3 b.m b.rs.length (b.rs.flatMap runC)) /\ ApartM ms /\ Below w.heap.size w wr /\ w.heap.size < wr.heap.size) (fun i _ => bs.length - (intOf i).toNat)
  case atStart => exact ⟨0,[],Nat.zero_le _,rfl,rfl,by simpa using own0,(fun b hb => by simp at hb),List.Pairwise.nil,bd0,(own0.lt _ rfl).2⟩
  case round =>
    obtain ⟨j,ms,hj,rfl,hpl,own,oms,apa,hb,hsz⟩ := hrel;have hml : ms.length = j := by have := plain_len hpl;rw [List.length_take] at this;omega
    by_cases hlt : j < bs.length
    · obtain ⟨g,off,rfl,hg,a0,a1,a2,a3,a4⟩ := HC.out j hlt
      have rm := ((RM.out bs[j] (List.getElem_mem hlt)).below hb).mono hb.size;have rl := RL.out bs[j] (List.getElem_mem hlt);have hpt : (bs.take (j + 1)).map plainB = (bs.take j).map plainB ++ [plainB bs[j]] := by rw [List.take_succ_eq_append_getElem hlt,List.map_append];rfl
      have hdr : zs.drop j = zs[j]'(by omega) :: zs.drop (j + 1) := List.drop_eq_getElem_cons (by omega);generalize zs[j]'(by omega) = z at hdr
      obtain ⟨x,hx⟩ : ∃ x,bs[j] = x := ⟨_,rfl⟩
      rw [hx] at a0 a1 a2 a3 a4 rm rl hpt;clear hx HC RM RL;obtain ⟨nm,sz,m,rs,fx,ep⟩ := x;simp only at a0 a1 a2 a3 a4 rm rl;obtain ⟨o',cap',rfl⟩ := rm.form;replace a0 := (hb.cell (p := ⟨g,off + j * 5,none⟩) hg).trans a0;replace a1 := (hb.cell (p := ⟨g,off + j * 5 + 1,none⟩) hg).trans a1;replace a2 := (hb.cell (p := ⟨g,off + j * 5 + 2,none⟩) hg).trans a2;replace a3 := (hb.cell (p := ⟨g,off + j * 5 + 3,none⟩) hg).trans a3;replace a4 := (hb.cell (p := ⟨g,off + j * 5 + 4,none⟩) hg).trans a4;have HP : Hid _ := And.intro hpl (And.intro hpt hdr);have HO : Hid _ := And.intro own oms;have HAP : Hid _ := apa;clear hpl hpt hdr own oms apa
      go_wp2_with fail
      refine (toBook_any nm sz _ rs fx ep _ rl rm).mono ?_;rintro e w5 ⟨g5,rfl,og,b5⟩;have own5 := owns_below HO.out.1 b5;have hjl : j < (ms ++ zs.drop j).length := by simp;omega
      obtain ⟨⟨t0,t1,t2,t3,t4⟩,u0,u1,u2,u3,u4⟩ := own_five own5 j hjl;have HST := own_book own5 j hjl ⟨nm,sz,.slice (some ⟨g5,0,none⟩) rs.length rs.length,rs,fx,ep⟩
      have hset : (ms ++ zs.drop j).set j ⟨nm,sz,.slice (some ⟨g5,0,none⟩) rs.length rs.length,rs,fx,ep⟩ = (ms ++ [⟨nm,sz,.slice (some ⟨g5,0,none⟩) rs.length rs.length,rs,fx,ep⟩]) ++ zs.drop (j + 1) := by
        rw [List.set_append_right _ _ (by omega),hml,Nat.sub_self,HP.out.2.2,List.set_cons_zero,List.append_assoc]
        rfl
      rw [hset] at HST;simp only at HST;have hs5 : w.heap.size < w5.heap.size := Nat.lt_of_lt_of_le hsz b5.size;have uu : Upto w.heap.size w5 (((((w5.setCell ⟨w.heap.size,j * 5,none⟩ (.string nm)).setCell ⟨w.heap.size,j * 5 + 1,none⟩ (.int .i64 sz)).setCell ⟨w.heap.size,j * 5 + 2,none⟩ (.slice (some ⟨g5,0,none⟩) rs.length rs.length)).setCell ⟨w.heap.size,j * 5 + 3,none⟩ (.bool fx)).setCell ⟨w.heap.size,j * 5 + 4,none⟩ (.int .i64 ep)) := (((((Upto.refl _ _).setCell ⟨w.heap.size,j * 5,none⟩ (.inl rfl) _).setCell ⟨w.heap.size,j * 5 + 1,none⟩ (.inl rfl) _).setCell ⟨w.heap.size,j * 5 + 2,none⟩ (.inl rfl) _).setCell ⟨w.heap.size,j * 5 + 3,none⟩ (.inl rfl) _).setCell ⟨w.heap.size,j * 5 + 4,none⟩ (.inl rfl) _;have hbf := (bw_call hb b5).trans (uu.toBelow (Nat.le_of_lt hs5) (Nat.le_refl _))
      have hms : ∀ b ∈ ms ++ [⟨nm,sz,.slice (some ⟨g5,0,none⟩) rs.length rs.length,rs,fx,ep⟩],(((((w5.setCell ⟨w.heap.size,j * 5,none⟩ (.string nm)).setCell ⟨w.heap.size,j * 5 + 1,none⟩ (.int .i64 sz)).setCell ⟨w.heap.size,j * 5 + 2,none⟩ (.slice (some ⟨g5,0,none⟩) rs.length rs.length)).setCell ⟨w.heap.size,j * 5 + 3,none⟩ (.bool fx)).setCell ⟨w.heap.size,j * 5 + 4,none⟩ (.int .i64 ep)).ownsRow (w.heap.size + 1) 149 3 b.m b.rs.length (b.rs.flatMap runC) := fun b hbm => by
        rcases List.mem_append.1 hbm with y | y
        · exact ownsRow_upto (owns_below (HO.out.2 b y) b5) uu (by omega)
        · simp only [List.mem_singleton] at y
          subst y;exact ownsRow_upto (owns_mono og (by omega)) uu (by omega)
      have hpn : (ms ++ [(⟨nm,sz,.slice (some ⟨g5,0,none⟩) rs.length rs.length,rs,fx,ep⟩ : Bk)]).map plainB = (bs.take (j + 1)).map plainB := by rw [HP.out.2.1,List.map_append,HP.out.1];rfl
      have hap : ApartM (ms ++ [⟨nm,sz,.slice (some ⟨g5,0,none⟩) rs.length rs.length,rs,fx,ep⟩]) := ApartM.snoc HAP.out _ (fun b hbm g hgb hgy => by
        have h1 := ((HO.out.2 b hbm).lt g hgb).2;have h2 := (og.lt g hgy).1
        omega)
      have HF : Hid _ := And.intro hpn (And.intro HST (And.intro hms (And.intro hap (And.intro hbf (Nat.lt_of_lt_of_le hs5 uu.size)))));generalize (ms ++ zs.drop j)[j] = y at t0 t1 t2 t3 t4;obtain ⟨yn,ys,ym,yr,yf,ye⟩ := y;simp only at t0 t1 t2 t3 t4;clear hpn HST hms hap HAP hbf uu own5 og b5 HO HP hset hb hs5 a0 a1 a2 a3 a4 rm rl
      go_wp2_with fail
      go_roundw
      case rel => exact ⟨j + 1,_,by omega,by go_num,HF.out⟩
      case measure => simp [intOf];omega
    · have hjj : j = bs.length := by omega
      have HAP : Hid _ := apa
      have HF : Hid (ms.map plainB = bs.map plainB /\ OwnB w.heap.size wr (.slice (some ⟨w.heap.size,0,none⟩) bs.length bs.length) ms) := by
        rw [hjj,List.take_length] at hpl;rw [hjj,List.drop_of_length_le (by omega),List.append_nil] at own;exact ⟨hpl,own,fun b hbm => owns_mono (oms b hbm) (by omega)⟩
      clear hpl own oms
      go_wp2_with fail
      go_ret;exact ⟨ms,rfl,HF.out.1,HF.out.2,HAP.out,hb⟩
def errVars : List Nat := [2,3,4,5,6,7,8,9,1]
structure Vars (w : World) (ad : Nat -> Addr) : Prop where
  cell : ∀ i ∈ errVars,w.cell? ⟨i,0,none⟩ = some (.iface 304 (.pointer (some (ad i))))
  et : w.cell? ⟨10,0,none⟩ = some (.iface 222 (.agg #[.pointer (some ⟨12,78,none⟩)]))
  blk : ∀ i ∈ errVars,∃ c t,w.heap[(ad i).block]? = some (.cells c t (0,0))
theorem cell_lt {w : World} {a : Addr} {v : Value} (h : w.cell? a = some v) : a.block < w.heap.size := by
  rcases Nat.lt_or_ge a.block w.heap.size with q | q
  · exact q
  · simp [World.cell?,Array.getElem?_eq_none q] at h
theorem Vars.below {w w' : World} {ad : Nat -> Addr} (h : Vars w ad) (k : Below w.heap.size w w') : Vars w' ad :=
  ⟨fun i hi => (k.cell (p := ⟨i,0,none⟩) (cell_lt (h.cell i hi))).trans (h.cell i hi),(k.cell (p := ⟨10,0,none⟩) (cell_lt h.et)).trans h.et,fun i hi => by
    obtain ⟨c,t,hb⟩ := h.blk i hi
    exact ⟨c,t,(k.block _ (heap_lt hb)).trans hb⟩⟩
structure VarsS (w : World) (ad : Nat -> Addr) : Prop where
  v : Vars w ad
  ws : w.cell? ⟨0,0,none⟩ = some (.iface 304 (.pointer (some (ad 0))))
  ne : ∀ i ∈ errVars,ad i ≠ ad 0
  wb : ∃ c t,w.heap[(ad 0).block]? = some (.cells c t (0,0))
theorem VarsS.below {w w' : World} {ad : Nat -> Addr} (h : VarsS w ad) (k : Below w.heap.size w w') : VarsS w' ad :=
  ⟨h.v.below k,(k.cell (p := ⟨0,0,none⟩) (cell_lt h.ws)).trans h.ws,h.ne,by
    obtain ⟨c,t,hb⟩ := h.wb
    exact ⟨c,t,(k.block _ (heap_lt hb)).trans hb⟩⟩
def varOf (c : Int) : Nat := if c = 1 then 2 else if c = 2 then 3 else if c = 3 then 4 else if c = 4 then 5 else if c = 5 then 6 else if c = 6 then 7 else if c = 7 then 8 else if c = 8 then 9 else if c = 9 then 1 else 0
def refErr (ad : Nat -> Addr) (c : Int) : Value := if c = 0 then .nilIface else .iface 126 (.agg #[.int .i64 c,.iface 304 (.pointer (some (ad (varOf c))))])
def kMakes (k : Int) : Bool := decide (k = 1) || kOther k
def kInside (k : Int) : Bool := decide (k = 2) || decide (k = 3) || decide (k = 7)
theorem makes_any (k : Int) (hk : 1 <= k /\ k <= 9) (w : World) :
    Calls Tryz.prog 144 #[.int .i64 k] w fun e w' => e = .returned (.bool (kMakes k)) /\ w' = w := by
  have h : k = 1 \/ k = 2 \/ k = 3 \/ k = 4 \/ k = 5 \/ k = 6 \/ k = 7 \/ k = 8 \/ k = 9 := by omega
  rcases h with rfl | rfl | rfl | rfl | rfl | rfl | rfl | rfl | rfl
  all_goals
    go_enter Tryz.func144,Tryz.ntmps144
    go_wp2
    go_ret;exact ⟨rfl,rfl⟩
theorem heedsEpoch_any (k : Int) (hk : 1 <= k /\ k <= 9) (w : World) :
    Calls Tryz.prog 146 #[.int .i64 k] w fun e w' => e = .returned (.bool (kEpoch k)) /\ w' = w := by
  have h : k = 1 \/ k = 2 \/ k = 3 \/ k = 4 \/ k = 5 \/ k = 6 \/ k = 7 \/ k = 8 \/ k = 9 := by omega
  rcases h with rfl | rfl | rfl | rfl | rfl | rfl | rfl | rfl | rfl
  all_goals
    go_enter Tryz.func146,Tryz.ntmps146
    go_wp2
    go_ret;exact ⟨rfl,rfl⟩
theorem changesInside_any (k : Int) (hk : 1 <= k /\ k <= 9) (w : World) :
    Calls Tryz.prog 147 #[.int .i64 k] w fun e w' => e = .returned (.bool (kInside k)) /\ w' = w := by
  have h : k = 1 \/ k = 2 \/ k = 3 \/ k = 4 \/ k = 5 \/ k = 6 \/ k = 7 \/ k = 8 \/ k = 9 := by omega
  rcases h with rfl | rfl | rfl | rfl | rfl | rfl | rfl | rfl | rfl
  all_goals
    go_enter Tryz.func147,Tryz.ntmps147
    go_wp2
    go_ret;exact ⟨rfl,rfl⟩
theorem asksPlace_any (k : Int) (hk : 1 <= k /\ k <= 9) (w : World) :
    Calls Tryz.prog 148 #[.int .i64 k] w fun e w' => e = .returned (.bool (kAt k)) /\ w' = w := by
  have h : k = 1 \/ k = 2 \/ k = 3 \/ k = 4 \/ k = 5 \/ k = 6 \/ k = 7 \/ k = 8 \/ k = 9 := by omega
  rcases h with rfl | rfl | rfl | rfl | rfl | rfl | rfl | rfl | rfl
  all_goals
    go_enter Tryz.func148,Tryz.ntmps148
    go_wp2
    go_ret;exact ⟨rfl,rfl⟩
theorem madeName_make (nm ot : ByteArray) (at_ va ep : Int) (w : World) :
    Calls Tryz.prog 145 #[.agg #[.int .i64 1,.string nm,.string ot,.int .i64 at_,.int .i64 va,.int .i64 ep]] w fun e w' => e = .returned (.string nm) /\ Below w.heap.size w w' := by
  go_enter Tryz.func145,Tryz.ntmps145
  go_wp2
  go_ret;exact ⟨rfl,bw_alloc (Below.refl _ _)⟩
theorem madeName_other (k : Int) (hk : k = 4 \/ k = 5) (nm ot : ByteArray) (at_ va ep : Int) (w : World) :
    Calls Tryz.prog 145 #[.agg #[.int .i64 k,.string nm,.string ot,.int .i64 at_,.int .i64 va,.int .i64 ep]] w fun e w' => e = .returned (.string ot) /\ Below w.heap.size w w' := by
  rcases hk with rfl | rfl
  all_goals
    go_enter Tryz.func145,Tryz.ntmps145
    go_wp2
    go_ret;exact ⟨rfl,bw_alloc (Below.refl _ _)⟩
def bkAt (bks : List Bk) (at_ : Int) : Bk := if at_ < 0 then zeroBk else bks.getD at_.toNat zeroBk
theorem bkAt_no {bks : List Bk} {at_ : Int} (h : at_ < 0) : bkAt bks at_ = zeroBk := by rw [bkAt,if_pos h]
theorem bkAt_yes {bks : List Bk} {i : Nat} (h : i < bks.length) : bkAt bks (i : Int) = bks[i] := by
  rw [bkAt,if_neg (by omega),Int.toNat_natCast,List.getD_eq_getElem?_getD,List.getElem?_eq_getElem h];rfl
set_option maxHeartbeats 1600000 in
theorem bookAt_any (vb : Value) (bks : List Bk) (at_ : Int) (w : World) (hat : at_ < bks.length) (hms : ∀ b ∈ bks,∃ o k cap,b.m = .slice o k cap) (r : ReadsR 5 bookC w.heap.size w vb bks) :
    Calls Tryz.prog 142 #[vb,.int .i64 at_] w fun e w' => e = .returned (.agg (bookC (bkAt bks at_)).toArray) /\ Below w.heap.size w w' := by
  obtain ⟨o,cap,rfl,hm,hc,-⟩ := r;have HC : Hid _ := five_cells hc;obtain ⟨W0,hW0,k0,d0,z0⟩ := box1 w #[.string ByteArray.empty,.int .i64 0,.slice none 0 0,.bool false,.int .i64 0] 96;unfold maxLen at hm;have HW0 : Hid (W0 = _) := hW0;obtain ⟨p0,p1,p2,p3,p4⟩ := c5 k0;obtain ⟨f0,f1,f2,f3,f4⟩ := o5 k0;clear hc;by_cases h0 : at_ < 0
  · rw [bkAt_no h0]
    go_enter Tryz.func142,Tryz.ntmps142
    go_wp2_with fail
    refine bodyPost_ret (v := .agg (bookC zeroBk).toArray) ?_ rfl ⟨rfl,bw_alloc (Below.refl _ _)⟩;simp [results,Tryz.results142,go_sem,bookC,zeroBk]
    rfl
  · obtain ⟨i,rfl⟩ := Int.eq_ofNat_of_zero_le (show 0 <= at_ by omega)
    have hi : i < bks.length := by omega
    rw [bkAt_yes hi];obtain ⟨g,off,rfl,hg,a0,a1,a2,a3,a4⟩ := HC.out i hi;obtain ⟨o',k',c',hm'⟩ := hms bks[i] (List.getElem_mem hi);generalize bks[i] = x at *;obtain ⟨xn,xs,xm,xr,xf,xe⟩ := x;simp only at a0 a1 a2 a3 a4 hm';subst hm';have hne : ¬ g = w.heap.size := by omega
    go_enter Tryz.func142,Tryz.ntmps142
    go_wp2_with fail
    refine bodyPost_ret (v := .agg (bookC ⟨xn,xs,.slice o' k' c',xr,xf,xe⟩).toArray) ?_ rfl ⟨rfl,bw_alloc (Below.refl _ _)⟩;simp [results,Tryz.results142,go_sem,bookC]
set_option maxHeartbeats 1600000 in
theorem codeOf_any (c : Int) (i : Nat) (w : World) (ad : Nat -> Addr) (hv : Vars w ad) :
    Calls Tryz.prog 46 #[.iface 126 (.agg #[.int .i64 c,.iface 304 (.pointer (some (ad i)))])] w fun e w' => e = .returned (.int .i64 c) /\ Below w.heap.size w w' := by
  obtain ⟨W0,hW0,k0,d0,z0⟩ := box1 w #[.int .i64 0,.nilIface] 126;have HW0 : Hid (W0 = _) := hW0;have hv0 := hv.below d0;clear hW0 z0
  go_enter Tryz.func46,Tryz.ntmps46
  go_wp2_with fail
  rw [<- HW0.out];clear HW0;refine (as_ref c _ (ad i) w.heap.size _ _ _ hv0.et k0).mono ?_;rintro e w1 ⟨rfl,k1,u1⟩;have q0 := at_cell k1 0;have b1 : Below w.heap.size w w1 := d0.trans (u1.toBelow d0.size (Nat.le_refl _));clear k1 u1 k0 d0
  go_wp2_with fail
  go_ret;exact ⟨rfl,b1⟩
end Go.Proofs.YtmnhnhjefocicaaGreatDoor
