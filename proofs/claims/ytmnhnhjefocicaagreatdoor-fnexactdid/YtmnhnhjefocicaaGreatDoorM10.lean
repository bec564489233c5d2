import Derived.Laws.MakeOwn
import Derived.Test.YtmnhnhjefocicaaGreatDoorM01
import Derived.Test.YtmnhnhjefocicaaGreatDoorM03
import Derived.Test.YtmnhnhjefocicaaGreatDoorM06
import Derived.Test.YtmnhnhjefocicaaGreatDoorM08
namespace Go.Proofs.YtmnhnhjefocicaaGreatDoor
open Go.RowKit
set_option linter.unusedVariables false
set_option maxRecDepth 100000
set_option maxHeartbeats 3200000 in
theorem eqBooks_same (v v' : Value) (bs ms : List Bk) (w : World) (hp : ms.map plainB = bs.map plainB) (r : ReadsB w.heap.size w v bs) (r' : ReadsB w.heap.size w v' ms) :
    Calls Tryz.prog 77 #[v,v'] w fun e w' => e = .returned (.bool true) /\ Below w.heap.size w w' := by
  have RM : Hid _ := r.maps;have RM' : Hid _ := r'.maps;have hl := plain_len hp;have HP : Hid _ := hp;obtain ⟨o1,cap1,rfl,m1,c1,-⟩ := r.row;obtain ⟨o2,cap2,rfl,m2,c2,-⟩ := r'.row;have C1 : Hid _ := five_cells c1;have C2 : Hid _ := five_cells c2;have HL : Hid (ms.length = bs.length) := hl;rw [hl];unfold maxLen at m1;clear c1 c2 m2 r r' hp hl
  go_enter Tryz.func77,Tryz.ntmps77
  go_wp2
  go_loopw [5] (fun i wr => ∃ k : Nat,k <= bs.length /\ i = .int .i64 k /\ Below w.heap.size w wr) (fun i _ => bs.length - (intOf i).toNat)
  case atStart => exact ⟨0,Nat.zero_le _,rfl,Below.refl _ _⟩
  case round =>
    obtain ⟨k,hk,rfl,hb⟩ := hrel;by_cases hlt : k < bs.length
    · have hlt2 : k < ms.length := by have := HL.out;omega
      obtain ⟨g1,of1,rfl,q1,a0,a1,a2,a3,a4⟩ := C1.out k hlt;obtain ⟨g2,of2,rfl,q2,b0,b1,b2,b3,b4⟩ := C2.out k hlt2;have rm := (RM.out bs[k] (List.getElem_mem hlt)).below hb;have rm' := (RM'.out ms[k] (List.getElem_mem hlt2)).below hb;have hpk := plain_at HP.out k hlt2 hlt;generalize bs[k] = x at a0 a1 a2 a3 a4 rm hpk;generalize ms[k] = y at b0 b1 b2 b3 b4 rm' hpk;obtain ⟨nm,sz,m,rs,fx,ep⟩ := x;obtain ⟨nm',sz',m',rs',fx',ep'⟩ := y;simp only [plainB,Prod.mk.injEq] at a0 a1 a2 a3 a4 b0 b1 b2 b3 b4 rm rm' hpk;obtain ⟨rfl,rfl,rfl,rfl,rfl⟩ := hpk;have hne := BelowOf.any wr;have l1 : g1 < wr.heap.size := Nat.lt_of_lt_of_le q1 hb.size;have l2 : g2 < wr.heap.size := Nat.lt_of_lt_of_le q2 hb.size;have HEQ : ∀ q : BelowOf wr,Calls Tryz.prog 137 #[.agg #[.string nm',.int .i64 sz',m,.bool fx',.int .i64 ep'],.agg #[.string nm',.int .i64 sz',m',.bool fx',.int .i64 ep']] q.w' fun e w' => e = .returned (.bool true) /\ Below q.w'.heap.size q.w' w' := fun q => eqBook_same nm' sz' m m' rs' fx' ep' q.w' (rm.of hb.size q) (rm'.of hb.size q)
      have d0 := BelowOf.cell ((hb.cell (p := ⟨g1,of1 + k * 5,none⟩) q1).trans a0) l1;have d1 := BelowOf.cell ((hb.cell (p := ⟨g1,of1 + k * 5 + 1,none⟩) q1).trans a1) l1;have d2 := BelowOf.cell ((hb.cell (p := ⟨g1,of1 + k * 5 + 2,none⟩) q1).trans a2) l1;have d3 := BelowOf.cell ((hb.cell (p := ⟨g1,of1 + k * 5 + 3,none⟩) q1).trans a3) l1;have d4 := BelowOf.cell ((hb.cell (p := ⟨g1,of1 + k * 5 + 4,none⟩) q1).trans a4) l1;have f0 := BelowOf.cell ((hb.cell (p := ⟨g2,of2 + k * 5,none⟩) q2).trans b0) l2;have f1 := BelowOf.cell ((hb.cell (p := ⟨g2,of2 + k * 5 + 1,none⟩) q2).trans b1) l2;have f2 := BelowOf.cell ((hb.cell (p := ⟨g2,of2 + k * 5 + 2,none⟩) q2).trans b2) l2;have f3 := BelowOf.cell ((hb.cell (p := ⟨g2,of2 + k * 5 + 3,none⟩) q2).trans b3) l2;have f4 := BelowOf.cell ((hb.cell (p := ⟨g2,of2 + k * 5 + 4,none⟩) q2).trans b4) l2;have g1' : (0 : Int) <= (k : Int) := by omega
      have g2' : (k : Int) < (bs.length : Int) := by omega
      clear a0 a1 a2 a3 a4 b0 b1 b2 b3 b4 C1 C2 RM RM' rm rm' HP
      go_wp2_with fail
      refine wp_region_of (by kernel_rfl) (by kernel_rfl) ?_
      repeat (go_big_quiet_step ((first | (go_at_call 137;exact calls_of (HEQ _)) | rfl)))
      refine wpQuiet_nil ?_;intro w5 hw5;obtain ⟨⟨wx,cx⟩,hwx⟩ := hw5;have b5 : Below wr.heap.size wr w5 := by rw [hwx];exact cx
      have hb5 := hb.trans (b5.mono hb.size);clear hwx cx wx hne d0 d1 d2 d3 d4 f0 f1 f2 f3 f4 HEQ
      go_wp2_with fail
      go_roundw
      case rel => exact ⟨k + 1,by omega,by go_num,hb5⟩
      case measure => simp [intOf];omega
    · go_wp2
      go_ret;exact ⟨rfl,hb⟩
theorem szInts_any (o : Option Addr) (n cap : Nat) (left : Int) (w : World) (h0 : 0 <= left) (hl : left <= 1048576) (hm : n <= maxLen) :
    Calls Tryz.prog 127 #[.slice o n cap,.int .i64 left] w fun e w' => e = .returned (.int .i64 (if left < n then -1 else left - n)) /\ w' = w := by
  unfold maxLen at hm;by_cases hbig : left < (n : Int)
  · rw [if_pos hbig]
    have h1 : left - (n : Int) < 0 := by omega
    go_enter Tryz.func127,Tryz.ntmps127
    go_wp2_with fail
    go_ret;exact ⟨rfl,rfl⟩
  · rw [if_neg hbig]
    have h1 : 0 <= left - (n : Int) := by omega
    go_enter Tryz.func127,Tryz.ntmps127
    go_wp2_with fail
    go_ret;exact ⟨rfl,rfl⟩
theorem copied_setI (ps : List Int) (xs : List Value) (j : Nat) (hj : j < ps.length) (hx : xs.length = ps.length) :
    ((ps.take j).map (Value.int .i64) ++ xs.drop j).set j (.int .i64 ps[j]) = (ps.take (j + 1)).map (Value.int .i64) ++ xs.drop (j + 1) := by
  have hl : ((ps.take j).map (Value.int .i64)).length = j := by simp;omega
  rw [List.set_append_right _ _ (by omega),hl,Nat.sub_self,List.drop_eq_getElem_cons (show j < xs.length by omega),List.set_cons_zero,List.take_succ_eq_append_getElem hj,List.map_append,List.append_assoc]
  rfl
theorem made_ints (n : Nat) (hn : n <= 1048576) : ∃ M : Array Value,M.toList = (List.replicate n (0 : Int)).map (Value.int .i64) /\ (∀ W : World,(Instr.makeSlice 37 (.int .i64 (n : Int)) (.int .i64 (n : Int))).run Tryz.prog W = .ok (.slice (some ⟨W.heap.size,0,none⟩) n n) (W.alloc (.cells M 2))) /\
    ∀ (W : World) (base : Nat),base <= W.heap.size -> (W.alloc (.cells M 2)).ownsRow base 2 1 (.slice (some ⟨W.heap.size,0,none⟩) n n) n ((List.replicate n (0 : Int)).map (Value.int .i64)) := by
  obtain ⟨i0,hi,hz0,hz1,hz2⟩ := info_parts Tryz.infoI64
  have e : (madeCells (Value.int .i64 0).cells n).toList = (List.replicate n (0 : Int)).map (Value.int .i64) := by
    show (madeCells #[.int .i64 0] n).toList = _
    rw [toList_madeCells_one];simp
  refine ⟨madeCells (Value.int .i64 0).cells n,e,fun W => ?_,fun W base hb => ?_⟩
  · have h := run_make (P := Tryz.prog) W 37 2 i0 (.int .i64 0) Tryz.underlying37 hi hz0 .i64 .i64 (n : Int) (n : Int) (by omega) (by omega) (by rw [hz2];omega) (by omega)
    rw [hz1,Nat.mul_one,Int.toNat_natCast] at h
    simpa using h
  · have h := World.ownsRow_lit (base := base) (size := 1) (e := 2) W (madeCells (Value.int .i64 0).cells n) n hb (by unfold maxLen;omega) (by rw [size_madeCells];omega)
    rwa [e] at h
set_option maxHeartbeats 1600000 in
theorem toInts_any (v : Value) (ps : List Int) (w : World) (hn : ps.length <= 1048576) (hp : Reads w.heap.size w v (ps.map (Value.int .i64))) :
    Calls Tryz.prog 129 #[v] w fun e w' => e = .returned (.slice (some ⟨w.heap.size,0,none⟩) ps.length ps.length) /\ w'.ownsRow w.heap.size 2 1 (.slice (some ⟨w.heap.size,0,none⟩) ps.length ps.length) ps.length (ps.map (Value.int .i64)) /\ Below w.heap.size w w' := by
  obtain ⟨o,cap,rfl,hm,hcells,-⟩ := hp;have HC : Hid (∀ j u,(ps.map (Value.int .i64))[j]? = some u -> ∃ g off,o = some ⟨g,off,none⟩ /\ g < w.heap.size /\ w.cell? ⟨g,off + j,none⟩ = some u) := hcells;have hlen : (ps.map (Value.int .i64)).length = ps.length := by simp
  rw [hlen];clear hcells hlen hm;obtain ⟨M,hM,hmk,hown⟩ := made_ints ps.length hn;have own0 := hown w w.heap.size (Nat.le_refl _);have bd0 : Below w.heap.size w (w.alloc (.cells M 2)) := (Below.refl _ _).alloc (Nat.le_refl _) _;clear hown hM
  go_enter Tryz.func129,Tryz.ntmps129
  go_wp2_with fail
  generalize w.alloc (.cells M 2) = W0 at own0 bd0 ⊢;generalize hxs : (List.replicate ps.length (0 : Int)).map (Value.int .i64) = xs at own0;have hMl : xs.length = ps.length := by rw [<- hxs];simp
  clear hmk hxs
  go_loopw [4] (fun i wr => ∃ j : Nat,j <= ps.length /\ i = .int .i64 j /\ wr.ownsRow w.heap.size 2 1 (.slice (some ⟨w.heap.size,0,none⟩) ps.length ps.length) ps.length ((ps.take j).map (Value.int .i64) ++ xs.drop j) /\ Below w.heap.size w wr) (fun i _ => ps.length - (intOf i).toNat)
  case atStart => exact ⟨0,Nat.zero_le _,rfl,by simpa using own0,bd0⟩
  case round =>
    obtain ⟨j,hj,rfl,own,hb⟩ := hrel;by_cases hlt : j < ps.length
    · obtain ⟨g,off,rfl,hg,hx⟩ := HC.out j (.int .i64 ps[j]) (by simp [hlt])
      have hx1 : wr.cell? ⟨g,off + j,none⟩ = some (.int .i64 ps[j]) := (hb.cell (p := ⟨g,off + j,none⟩) hg).trans hx;have hc0 := own.cellAt j (by omega);have hf := own.frozenAt j;have hst := (own.stored j (.int .i64 ps[j])).1;rw [copied_setI ps xs j hlt hMl] at hst
      obtain ⟨u0,hu0⟩ : ∃ u0,((ps.take j).map (Value.int .i64) ++ xs.drop j)[j]? = some u0 := ⟨_,List.getElem?_eq_getElem (by simp;omega)⟩
      have hc : wr.cell? ⟨w.heap.size,j,none⟩ = some u0 := hc0.trans hu0;have hb2 : Below w.heap.size w (wr.setCell ⟨w.heap.size,j,none⟩ (.int .i64 ps[j])) := hb.setCell (p := ⟨w.heap.size,j,none⟩) (Nat.le_refl _) _;have HST : Hid _ := And.intro hst hb2;clear hst hb2 hc0 hu0 own hx;generalize ps[j] = x at hx1 HST
      go_wp2_with fail
      go_roundw
      case rel => exact ⟨j + 1,by omega,by go_num,HST.out.1,HST.out.2⟩
      case measure => simp [intOf];omega
    · obtain rfl : j = ps.length := by omega
      rw [List.take_length,List.drop_of_length_le (by omega),List.append_nil] at own
      go_wp2_with fail
      go_ret;exact ⟨rfl,own,hb⟩
theorem int_ne {x y : Int} (h : (x != y) = true) : x ≠ y := by simpa using h
theorem int_same {x y : Int} (h : (x != y) = false) : x = y := by simpa using h
set_option maxHeartbeats 800000 in
theorem eqInts_any (v1 v2 : Value) (xs ys : List Int) (w : World) (h1 : Reads w.heap.size w v1 (xs.map (Value.int .i64))) (h2 : Reads w.heap.size w v2 (ys.map (Value.int .i64))) :
    Calls Tryz.prog 136 #[v1,v2] w fun e w' => e = .returned (.bool (decide (xs = ys))) /\ Below w.heap.size w w' := by
  obtain ⟨o1,cap1,rfl,m1,c1,-⟩ := h1;obtain ⟨o2,cap2,rfl,m2,c2,-⟩ := h2;simp only [List.length_map] at m1 m2 c1 c2 ⊢;by_cases hlen : xs.length = ys.length
  · rw [<- hlen]
    have C1 : Hid (∀ j u,(xs.map (Value.int .i64))[j]? = some u -> ∃ g off,o1 = some ⟨g,off,none⟩ /\ g < w.heap.size /\ w.cell? ⟨g,off + j,none⟩ = some u) := c1;have C2 : Hid (∀ j u,(ys.map (Value.int .i64))[j]? = some u -> ∃ g off,o2 = some ⟨g,off,none⟩ /\ g < w.heap.size /\ w.cell? ⟨g,off + j,none⟩ = some u) := c2;have HL : Hid (xs.length = ys.length) := hlen;have hle : ys.length <= xs.length := by omega
    have hge : xs.length <= ys.length := by omega
    unfold maxLen at m1;clear c1 c2 m2 hlen
    go_enter Tryz.func136,Tryz.ntmps136
    go_wp2
    go_loopw [5] (fun i wr => ∃ k : Nat,k <= xs.length /\ i = .int .i64 k /\ xs.take k = ys.take k /\ Below w.heap.size w wr) (fun i _ => xs.length - (intOf i).toNat)
    case atStart => exact ⟨0,Nat.zero_le _,rfl,rfl,Below.refl _ _⟩
    case round =>
      obtain ⟨k,hk,rfl,htk,hb⟩ := hrel;have HT : Hid (xs.take k = ys.take k) := htk;clear htk;by_cases hlt : k < xs.length
      · have hlt2 : k < ys.length := by omega
        obtain ⟨g1,of1,rfl,q1,cc1⟩ := C1.out k (.int .i64 xs[k]) (by simp [hlt]);obtain ⟨g2,of2,rfl,q2,cc2⟩ := C2.out k (.int .i64 ys[k]) (by simp [hlt2]);generalize hx : xs[k] = x at cc1;generalize hy : ys[k] = y at cc2;have HX : Hid (xs[k] = x) := hx;have HY : Hid (ys[k] = y) := hy;clear hx hy C1 C2;have d1 := (hb.cell (p := ⟨g1,of1 + k,none⟩) q1).trans cc1;have d2 := (hb.cell (p := ⟨g2,of2 + k,none⟩) q2).trans cc2;clear cc1 cc2
        go_wp2
        go_quiet (fail)
        go_wp2
        · have hne : x ≠ y := int_ne (by assumption)
          rw [<- HX.out,<- HY.out] at hne;go_ret;exact ⟨ret_bool (by simp [ne_at xs ys k hlt hlt2 hne]),⟨hb.os,hb.tape,hb.output,hb.size,hb.block⟩⟩
        · have he : x = y := int_same (by assumption)
          rw [<- HX.out,<- HY.out] at he
          go_roundw
          case rel => exact ⟨k + 1,by omega,by go_num,take_more xs ys k hlt hlt2 HT.out he,⟨hb.os,hb.tape,hb.output,hb.size,hb.block⟩⟩
          case measure => simp [intOf];omega
      · go_wp2
        go_ret;exact ⟨ret_bool (by simp [all_taken xs ys k hlt HL.out HT.out]),hb⟩
  · have hn : ((xs.length : Int) != (ys.length : Int)) = true := by rw [bne_iff_ne];omega
    have HX : Hid (decide (xs = ys) = false) := by rw [Hid,decide_eq_false_iff_not];intro e;rw [e] at hlen;exact hlen rfl
    unfold maxLen at m1 m2;clear hlen c1 c2
    go_enter Tryz.func136,Tryz.ntmps136
    go_wp2
    go_ret;exact ⟨ret_bool HX.out.symm,Below.refl _ _⟩
def marksI (k : Int) (n : Nat) : List Int := (List.range n).map fun i : Nat => k + (i : Int)
theorem marksI_length (k : Int) (n : Nat) : (marksI k n).length = n := by simp [marksI]
theorem marksI_get (k : Int) (n j : Nat) (h : j < n) : ((marksI k n).map (Value.int .i64))[j]? = some (.int .i64 (k + j)) := by simp [marksI,h]
theorem marked_setI (k : Int) (xs : List Value) (j : Nat) (h : j < xs.length) :
    ((marksI k j).map (Value.int .i64) ++ xs.drop j).set j (.int .i64 (k + j)) = (marksI k (j + 1)).map (Value.int .i64) ++ xs.drop (j + 1) := by
  have hl : ((marksI k j).map (Value.int .i64)).length = j := by simp [marksI]
  have hs : (marksI k (j + 1)).map (Value.int .i64) = (marksI k j).map (Value.int .i64) ++ [.int .i64 (k + j)] := by simp [marksI,List.range_succ]
  rw [List.set_append_right _ _ (by omega),hl,Nat.sub_self,List.drop_eq_getElem_cons h,List.set_cons_zero,hs];exact (List.append_assoc _ [Value.int .i64 (k + j)] _).symm
theorem marked_allI (k : Int) (xs : List Value) (n : Nat) (h : xs.length = n) : (marksI k n).map (Value.int .i64) ++ xs.drop n = (marksI k n).map (Value.int .i64) := by
  rw [List.drop_of_length_le (by omega)];simp
set_option maxHeartbeats 800000 in
theorem markedI_any (g cap n base : Nat) (k : Int) (xs : List Value) (w : World) (hk : 0 <= k) (hn : k + n <= 1099511627776) (own : w.ownsRow base 2 1 (.slice (some ⟨g,0,none⟩) n cap) n xs) :
    Calls Tryz.prog 86 #[.slice (some ⟨g,0,none⟩) n cap,.int .i64 k] w fun e w' => e = .returned (.int .i64 (k + n)) /\ w'.ownsRow base 2 1 (.slice (some ⟨g,0,none⟩) n cap) n ((marksI k n).map (Value.int .i64)) /\ Upto g w w' := by
  have hx : xs.length = n := by simpa using own.1
  have hg := own.lt g rfl
  go_enter Tryz.func86,Tryz.ntmps86
  go_wp2
  go_loopw [1,5] (fun q i wr => ∃ j : Nat,j <= n /\ i = .int .i64 j /\ q = .int .i64 (k + j) /\ wr.ownsRow base 2 1 (.slice (some ⟨g,0,none⟩) n cap) n ((marksI k j).map (Value.int .i64) ++ xs.drop j) /\ Upto g w wr) (fun _ i _ => n - (intOf i).toNat)
  case atStart => exact ⟨0,Nat.zero_le _,rfl,by simp,by simpa [marksI] using own,Upto.refl _ _⟩
  case round =>
    obtain ⟨j,hj,rfl,rfl,ow,u⟩ := hrel;clear own;by_cases hlt : j < n
    · have hc0 := ow.cellAt j (by omega)
      have hf := ow.frozenAt j;have hst := (ow.stored j (.int .i64 (k + j))).1;rw [marked_setI k xs j (by omega)] at hst;have HST : Hid ((wr.setCell ⟨g,j,none⟩ (.int .i64 (k + j))).ownsRow base 2 1 (.slice (some ⟨g,0,none⟩) n cap) n ((marksI k (j + 1)).map (Value.int .i64) ++ xs.drop (j + 1))) := hst
      obtain ⟨u0,hu0⟩ : ∃ u0,((marksI k j).map (Value.int .i64) ++ xs.drop j)[j]? = some u0 := ⟨_,List.getElem?_eq_getElem (by simp [marksI_length];omega)⟩
      have hc : wr.cell? ⟨g,j,none⟩ = some u0 := hc0.trans hu0;have u2 : Upto g w (wr.setCell ⟨g,j,none⟩ (.int .i64 (k + j))) := u.setCell _ (.inl rfl) _;clear ow hc0 hu0 hst u
      go_wp2_with fail
      go_roundw
      case rel => exact ⟨j + 1,by omega,by go_num,by go_num,HST.out,u2⟩
      case measure => simp [intOf];omega
    · obtain rfl : j = n := by omega
      rw [marked_allI k xs j hx] at ow
      go_wp2_with fail
      go_ret;exact ⟨rfl,ow,u⟩
theorem markedIRow_any (v : Value) (n base : Nat) (k : Int) (xs : List Value) (w : World) (hk : 0 <= k) (hn : k + n <= 1099511627776) (hbase : base <= w.heap.size) (own : w.ownsRow base 2 1 v n xs) :
    Calls Tryz.prog 86 #[v,.int .i64 k] w fun e w' => e = .returned (.int .i64 (k + n)) /\ w'.ownsRow base 2 1 v n ((marksI k n).map (Value.int .i64)) /\ Below base w w' /\ w.heap.size <= w'.heap.size /\ ∀ i,i < w.heap.size -> v.ownBlock ≠ some i -> w'.heap[i]? = w.heap[i]? := by
  rcases own.2 with ⟨rfl,rfl⟩ | ⟨g,cap,cur,rfl,hg,_⟩
  · go_enter Tryz.func86,Tryz.ntmps86
    go_wp2
    refine wp_loop_rounds 1 ?_;rw [rounds_succ]
    go_wp2
    go_ret;exact ⟨ret_int (by simp),World.ownsRow_nil _ _ _ _,Below.refl _ _,Nat.le_refl _,fun _ _ _ => rfl⟩
  · refine (markedI_any g cap n base k xs w hk hn own).mono ?_
    rintro e w' ⟨he,ho,hu⟩;exact ⟨he,ho,hu.toBelow hbase hg,hu.size,fun i hi hn => hu.block i hi (fun e => hn (by rw [e];rfl))⟩
set_option maxHeartbeats 800000 in
theorem heldI_any (v : Value) (n : Nat) (k : Int) (w : World) (hk : 0 <= k) (hn : k + n <= 1099511627776) (hr : Reads w.heap.size w v ((marksI k n).map (Value.int .i64))) :
    Calls Tryz.prog 87 #[v,.int .i64 k] w fun e w' => e = .returned (.int .i64 (k + n)) /\ Below w.heap.size w w' := by
  obtain ⟨o,cap,rfl,hm,hc,-⟩ := hr;have hl : ((marksI k n).map (Value.int .i64)).length = n := by simp [marksI_length]
  rw [hl] at hm ⊢;have HC : Hid (∀ j u,((marksI k n).map (Value.int .i64))[j]? = some u -> ∃ g off,o = some ⟨g,off,none⟩ /\ g < w.heap.size /\ w.cell? ⟨g,off + j,none⟩ = some u) := hc;clear hc hl hm
  go_enter Tryz.func87,Tryz.ntmps87
  go_wp2
  go_loopw [1,5] (fun q i wr => ∃ j : Nat,j <= n /\ i = .int .i64 j /\ q = .int .i64 (k + j) /\ Below w.heap.size w wr) (fun _ i _ => n - (intOf i).toNat)
  case atStart => exact ⟨0,Nat.zero_le _,rfl,by simp,Below.refl _ _⟩
  case round =>
    obtain ⟨j,hj,rfl,rfl,hb⟩ := hrel;by_cases hlt : j < n
    · obtain ⟨g,off,rfl,hg,hx⟩ := HC.out j _ (marksI_get k n j hlt)
      have hx1 : wr.cell? ⟨g,off + j,none⟩ = some (.int .i64 (k + j)) := (hb.cell (p := ⟨g,off + j,none⟩) hg).trans hx;have g1 : (0 : Int) <= (j : Int) := by omega
      have g2 : (j : Int) < (n : Int) := by omega
      clear HC hx
      go_wp2
      go_roundw
      case rel => exact ⟨j + 1,by omega,by go_num,by go_num,hb⟩
      case measure => simp [intOf];omega
    · obtain rfl : j = n := by omega
      go_wp2_with fail
      go_ret;exact ⟨rfl,hb⟩
theorem pool_box (w : World) (v1 v2 : Value) (T : TypeId) : ∃ W0,W0 = w.alloc (.cells #[v1,v2] T) /\ W0.heap[w.heap.size]? = some (.cells #[v1,v2] T (0,0)) /\ Below w.heap.size w W0 /\ W0.heap.size = w.heap.size + 1 :=
  ⟨_,rfl,heap_alloc_new w _,bw_alloc (Below.refl _ _),by simp⟩
theorem getD_some (xs : List Int) (j : Nat) (h : j < xs.length) : (xs.map (Value.int .i64))[j]? = some (.int .i64 (xs.getD j 0)) := by
  rw [List.getElem?_map,List.getElem?_eq_getElem h,List.getD_eq_getElem?_getD,List.getElem?_eq_getElem h];rfl
set_option maxHeartbeats 1600000 in
theorem specPoolOk_any (v1 v2 : Value) (cs ps : List Int) (w : World) (h1 : Reads w.heap.size w v1 (cs.map (Value.int .i64))) (h2 : Reads w.heap.size w v2 (ps.map (Value.int .i64))) :
    Calls Tryz.prog 64 #[.agg #[v1,v2]] w fun e w' => e = .returned (.bool (poolOk cs ps)) /\ Below w.heap.size w w' := by
  obtain ⟨o1,cap1,rfl,m1,c1,-⟩ := h1;obtain ⟨o2,cap2,rfl,m2,c2,-⟩ := h2;simp only [List.length_map] at m1 m2 ⊢;have C1 : Hid (∀ j u,(cs.map (Value.int .i64))[j]? = some u -> ∃ g off,o1 = some ⟨g,off,none⟩ /\ g < w.heap.size /\ w.cell? ⟨g,off + j,none⟩ = some u) := c1;have C2 : Hid (∀ j u,(ps.map (Value.int .i64))[j]? = some u -> ∃ g off,o2 = some ⟨g,off,none⟩ /\ g < w.heap.size /\ w.cell? ⟨g,off + j,none⟩ = some u) := c2;clear c1 c2;unfold maxLen at m1 m2;obtain ⟨W0,hW0,k0,d0,z0⟩ := pool_box w (.slice o1 cs.length cap1) (.slice o2 ps.length cap2) 39;have HW0 : Hid (W0 = _) := hW0;have p0 := at_cell k0 0;have p1 := at_cell k0 1;clear hW0 k0;by_cases hl : (decide ((1 : Int) <= (cs.length : Int)) && decide ((cs.length : Int) <= 24)) = true
  · by_cases he : ps.length = cs.length
    · have hne : ((ps.length : Int) != (cs.length : Int)) = false := by simp [he]
      have hb : 1 <= cs.length /\ cs.length <= 24 := by simp at hl;omega
      have HE : Hid (ps.length = cs.length) := he;have he1 : ps.length <= cs.length := by omega
      have he2 : cs.length <= ps.length := by omega
      clear he
      go_enter Tryz.func64,Tryz.ntmps64
      go_wp2_with fail
      rw [<- HW0.out];clear HW0;refine (l1In_any _ _ _ _).mono ?_;rintro e w' ⟨rfl,rfl⟩;rw [hl]
      go_wp2_with fail
      go_loopw [3] (fun i wr => ∃ k : Nat,k <= cs.length /\ i = .int .i64 k /\ (∀ j,j < k -> cellOk (cs.getD j 0) (ps.getD j 0) = true) /\ wr = w') (fun i _ => cs.length - (intOf i).toNat)
      case atStart => exact ⟨0,Nat.zero_le _,rfl,fun j hj => by omega,rfl⟩
      case round =>
        obtain ⟨k,hk,rfl,hall,rfl⟩ := hrel;have HA : Hid (∀ j,j < k -> cellOk (cs.getD j 0) (ps.getD j 0) = true) := hall;clear hall;by_cases hlt : k < cs.length
        · obtain ⟨g1,of1,rfl,q1,cc1⟩ := C1.out k _ (getD_some cs k hlt)
          obtain ⟨g2,of2,rfl,q2,cc2⟩ := C2.out k _ (getD_some ps k (by omega));have d1 := (d0.cell (p := ⟨g1,of1 + k,none⟩) q1).trans cc1;have d2 := (d0.cell (p := ⟨g2,of2 + k,none⟩) q2).trans cc2
          have HN : Hid (cellOk (cs.getD k 0) (ps.getD k 0) = true -> ∀ j,j < k + 1 -> cellOk (cs.getD j 0) (ps.getD j 0) = true) := fun h j hj => by
            rcases Nat.lt_or_ge j k with q | q
            · exact HA.out j q
            · obtain rfl : j = k := by omega
              exact h
          have HNo : Hid (cellOk (cs.getD k 0) (ps.getD k 0) = false -> poolOk cs ps = false) := fun h => poolOk_no cs ps fun q => by rw [q.2.2.2 k hlt] at h;cases h
          clear C1 C2 cc1 cc2 HA;have hle2 : (k : Int) < (ps.length : Int) := by rw [HE.out];omega
          generalize cs.getD k 0 = c at *;generalize ps.getD k 0 = p at *;have HK : Hid (cellOk c p = ((decide (0 <= c) && decide (c <= 400)) && (decide (0 <= p) && decide (p <= 999)) && !(decide (c = 0) && !decide (p = 0)))) := rfl;cases hc : (decide (0 <= c) && decide (c <= 400))
          · go_wp2_with fail
            refine (l1In_any _ _ _ _).mono ?_;rintro e w1 ⟨rfl,rfl⟩;rw [hc]
            go_wp2_with fail
            go_ret;exact ⟨ret_bool (HNo.out (by rw [HK.out,hc];rfl)).symm,d0⟩
          · cases hp : (decide (0 <= p) && decide (p <= 999))
            · go_wp2_with fail
              refine (l1In_any _ _ _ _).mono ?_;rintro e w1 ⟨rfl,rfl⟩;rw [hc]
              go_wp2_with fail
              refine (l1In_any _ _ _ _).mono ?_;rintro e w1 ⟨rfl,rfl⟩;rw [hp]
              go_wp2_with fail
              go_ret;exact ⟨ret_bool (HNo.out (by rw [HK.out,hc,hp];rfl)).symm,d0⟩
            · by_cases hc0 : c = 0
              · by_cases hp0 : p = 0
                · have HOK : Hid (cellOk c p = true) := by rw [Hid,HK.out,hc,hp];simp [hp0]
                  subst hc0 hp0
                  go_wp2_with fail
                  refine (l1In_any _ _ _ _).mono ?_;rintro e w1 ⟨rfl,rfl⟩
                  go_wp2_with fail
                  refine (l1In_any _ _ _ _).mono ?_;rintro e w1 ⟨rfl,rfl⟩
                  go_wp2_with fail
                  go_roundw
                  case rel => exact ⟨k + 1,by omega,by go_num,HN.out HOK.out,by trivial⟩
                  case measure => simp [intOf];omega
                · have HNO : Hid (cellOk c p = false) := by rw [Hid,HK.out,hc,hp];simp [hp0,hc0]
                  subst hc0;have hp1 : (p != 0) = true := by simpa using hp0
                  go_wp2_with fail
                  refine (l1In_any _ _ _ _).mono ?_;rintro e w1 ⟨rfl,rfl⟩
                  go_wp2_with fail
                  refine (l1In_any _ _ _ _).mono ?_;rintro e w1 ⟨rfl,rfl⟩;rw [hp]
                  go_wp2_with fail
                  go_ret;exact ⟨ret_bool (HNo.out HNO.out).symm,d0⟩
              · have HOK : Hid (cellOk c p = true) := by rw [Hid,HK.out,hc,hp];simp [hc0]
                have hc1 : (c == 0) = false := by simpa using hc0
                go_wp2_with fail
                refine (l1In_any _ _ _ _).mono ?_;rintro e w1 ⟨rfl,rfl⟩;rw [hc]
                go_wp2_with fail
                refine (l1In_any _ _ _ _).mono ?_;rintro e w1 ⟨rfl,rfl⟩;rw [hp]
                go_wp2_with fail
                go_roundw
                case rel => exact ⟨k + 1,by omega,by go_num,HN.out HOK.out,by trivial⟩
                case measure => simp [intOf];omega
        · have hv : poolOk cs ps = true := (poolOk_iff cs ps).2 ⟨hb.1,hb.2,HE.out,fun j hj => HA.out j (by omega)⟩
          go_wp2_with fail
          go_ret;exact ⟨ret_bool hv.symm,d0⟩
    · have hne : ((ps.length : Int) != (cs.length : Int)) = true := by simp;omega
      have hv : poolOk cs ps = false := poolOk_no cs ps fun q => he q.2.2.1
      rw [hv]
      go_enter Tryz.func64,Tryz.ntmps64
      go_wp2_with fail
      rw [<- HW0.out];clear HW0;refine (l1In_any _ _ _ _).mono ?_;rintro e w' ⟨rfl,rfl⟩;rw [hl]
      go_wp2_with fail
      go_ret;exact ⟨rfl,d0⟩
  · have hf : (decide ((1 : Int) <= (cs.length : Int)) && decide ((cs.length : Int) <= 24)) = false := by simpa using hl
    have hv : poolOk cs ps = false := poolOk_no cs ps fun q => hl (by simp;omega)
    rw [hv]
    go_enter Tryz.func64,Tryz.ntmps64
    go_wp2_with fail
    rw [<- HW0.out];clear HW0;refine (l1In_any _ _ _ _).mono ?_;rintro e w' ⟨rfl,rfl⟩;rw [hf]
    go_wp2_with fail
    go_ret;exact ⟨rfl,d0⟩
end Go.Proofs.YtmnhnhjefocicaaGreatDoor
