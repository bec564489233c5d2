import Derived.Deep.DeepCutAuto
import Derived.Test.YtaekdfknkgmfbaaGreatDoorM01
import Derived.Test.YtaekdfknkgmfbaaGreatDoorM07
import Derived.Test.YtaekdfknkgmfbaaGreatDoorM26
import Derived.Test.YtaekdfknkgmfbaaGreatDoorM38
import Derived.Test.YtaekdfknkgmfbaaGreatDoorM39
import Derived.Test.YtaekdfknkgmfbaaGreatDoorM49
namespace Go.Proofs.YtaekdfknkgmfbaaGreatDoor
open Go.RowKit
set_option linter.unusedVariables false
set_option maxRecDepth 100000 in
set_option maxHeartbeats 3200000 in
theorem likeShelf_same (v1 v2 vb u1 u2 ub : Value) (cs ps : List Int) (bs ms : List Bk) (w : World) (hp : ms.map plainB = bs.map plainB) (r : RS w.heap.size w v1 v2 vb cs ps bs) (r' : RS w.heap.size w u1 u2 ub cs ps ms) :
    Calls Tryz.prog 18 #[.agg #[v1,v2,vb],.agg #[u1,u2,ub]] w fun e w' => e = .returned (.bool true) /\ Below w.heap.size w w' := by
  have hl := plain_len hp;have HP : Hid (ms.map plainB = bs.map plainB) := hp;have HL : Hid (ms.length = bs.length) := hl;obtain ⟨W0,hW0,kA,kB,d0,z0⟩ := box2 w #[v1,v2,vb] #[u1,u2,ub] 29 29;have s := (r.below d0).mono d0.size;have s' := (r'.below d0).mono d0.size;have RM : Hid (∀ b ∈ bs,ReadsR 3 runC W0.heap.size W0 b.m b.rs) := s.b.maps;have RM' : Hid (∀ b ∈ ms,ReadsR 3 runC W0.heap.size W0 b.m b.rs) := s'.b.maps
  have HRP : Hid (RP W0.heap.size W0 v1 v2 cs ps /\ RP W0.heap.size W0 u1 u2 cs ps) := ⟨s.p,s'.p⟩
  obtain ⟨o1,cap1,rfl,m1,c1,-⟩ := s.b.row;obtain ⟨o2,cap2,rfl,m2,c2,-⟩ := s'.b.row;have C1 : Hid _ := five_cells c1;have C2 : Hid _ := five_cells c2;rw [hl] at kB hW0 ⊢;unfold maxLen at m1;have HW0 : Hid (W0 = _) := hW0
  have HK : Hid (W0.heap[w.heap.size]? = some (.cells #[v1,v2,.slice o1 bs.length cap1] 29 (0,0)) /\ W0.heap[w.heap.size + 1]? = some (.cells #[u1,u2,.slice o2 bs.length cap2] 29 (0,0)) /\ Below w.heap.size w W0) := ⟨kA,kB,d0⟩
  obtain ⟨a0,a1,a2⟩ := c3 kA;obtain ⟨b0,b1,b2⟩ := c3 kB;clear hW0 z0 c1 c2 m2 r r' s s' hp hl kA kB d0
  go_enter Tryz.func18,Tryz.ntmps18
  go_upto_region 1 with fail
  rw [<- HW0.out];clear HW0
  go_wp2_with fail
  refine (likePool_any _ _ _ _ cs ps cs ps _ HRP.out.1 HRP.out.2).mono ?_;rw [show (decide (cs = cs) && decide (ps = ps)) = true by simp];rintro e w1 ⟨rfl,bw1⟩;have q2 := at_cell ((bw1.block _ (heap_lt HK.out.1)).trans HK.out.1) 2;have q5 := at_cell ((bw1.block _ (heap_lt HK.out.2.1)).trans HK.out.2.1) 2;clear a0 a1 a2 b0 b1 b2
  go_wp2_with fail
  clear q2 q5
  go_loopw [5] (fun i wr => ∃ k : Nat,k <= bs.length /\ i = .int .i64 k /\ Below W0.heap.size W0 wr) (fun i _ => bs.length - (intOf i).toNat)
  case atStart => exact ⟨0,Nat.zero_le _,rfl,bw1⟩
  case round =>
    obtain ⟨k,hk,rfl,hb⟩ := hrel;have kAr := (hb.block _ (heap_lt HK.out.1)).trans HK.out.1;have kBr := (hb.block _ (heap_lt HK.out.2.1)).trans HK.out.2.1;have e2 := at_cell kAr 2;by_cases hlt : k < bs.length
    · have hlt2 : k < ms.length := by have := HL.out;omega
      obtain ⟨g1,of1,rfl,q1,a0,a1,a2,a3,a4⟩ := C1.out k hlt;obtain ⟨g2,of2,rfl,q2,b0,b1,b2,b3,b4⟩ := C2.out k hlt2;have rm := (RM.out bs[k] (List.getElem_mem hlt)).below hb;have rm' := (RM'.out ms[k] (List.getElem_mem hlt2)).below hb;have hpk := plain_at HP.out k hlt2 hlt;generalize bs[k] = x at a0 a1 a2 a3 a4 rm hpk;generalize ms[k] = y at b0 b1 b2 b3 b4 rm' hpk;obtain ⟨nm,sz,m,rs,fx,ep⟩ := x;obtain ⟨nm',sz',m',rs',fx',ep'⟩ := y;simp only [plainB,Prod.mk.injEq] at a0 a1 a2 a3 a4 b0 b1 b2 b3 b4 rm rm' hpk;obtain ⟨rfl,rfl,rfl,rfl,rfl⟩ := hpk;have hne := BelowOf.any wr;have l1 : g1 < wr.heap.size := Nat.lt_of_lt_of_le q1 hb.size;have l2 : g2 < wr.heap.size := Nat.lt_of_lt_of_le q2 hb.size;have HEQ : ∀ q : BelowOf wr,Calls Tryz.prog 70 #[.agg #[.string nm',.int .i64 sz',m,.bool fx',.int .i64 ep'],.agg #[.string nm',.int .i64 sz',m',.bool fx',.int .i64 ep']] q.w' fun e w' => e = .returned (.bool true) /\ Below q.w'.heap.size q.w' w' := fun q => likeBook_same nm' sz' m m' rs' fx' ep' q.w' (rm.of hb.size q) (rm'.of hb.size q)
      have t1 := BelowOf.cell (at_cell kAr 2) (heap_lt kAr);have t2 := BelowOf.cell (at_cell kBr 2) (heap_lt kBr);have d0 := BelowOf.cell ((hb.cell (p := ⟨g1,of1 + k * 5,none⟩) q1).trans a0) l1;have d1 := BelowOf.cell ((hb.cell (p := ⟨g1,of1 + k * 5 + 1,none⟩) q1).trans a1) l1;have d2 := BelowOf.cell ((hb.cell (p := ⟨g1,of1 + k * 5 + 2,none⟩) q1).trans a2) l1;have d3 := BelowOf.cell ((hb.cell (p := ⟨g1,of1 + k * 5 + 3,none⟩) q1).trans a3) l1;have d4 := BelowOf.cell ((hb.cell (p := ⟨g1,of1 + k * 5 + 4,none⟩) q1).trans a4) l1;have f0 := BelowOf.cell ((hb.cell (p := ⟨g2,of2 + k * 5,none⟩) q2).trans b0) l2;have f1 := BelowOf.cell ((hb.cell (p := ⟨g2,of2 + k * 5 + 1,none⟩) q2).trans b1) l2;have f2 := BelowOf.cell ((hb.cell (p := ⟨g2,of2 + k * 5 + 2,none⟩) q2).trans b2) l2;have f3 := BelowOf.cell ((hb.cell (p := ⟨g2,of2 + k * 5 + 3,none⟩) q2).trans b3) l2;have f4 := BelowOf.cell ((hb.cell (p := ⟨g2,of2 + k * 5 + 4,none⟩) q2).trans b4) l2;have g1' : (0 : Int) <= (k : Int) := by omega
      have g2' : (k : Int) < (bs.length : Int) := by omega
      clear a0 a1 a2 a3 a4 b0 b1 b2 b3 b4 C1 C2 RM RM' rm rm' HP
      go_wp2_with fail
      refine wp_region_of (by kernel_rfl) (by kernel_rfl) ?_
      repeat (go_big_quiet_step ((first | (go_at_call 70;exact calls_of (HEQ _)) | rfl)))
      refine wpQuiet_nil ?_;intro w5 hw5;obtain ⟨⟨wx,cx⟩,hwx⟩ := hw5;have b5 : Below wr.heap.size wr w5 := by rw [hwx];exact cx
      have hb5 := hb.trans (b5.mono hb.size);clear hwx cx wx hne t1 t2 d0 d1 d2 d3 d4 f0 f1 f2 f3 f4 HEQ
      go_wp2_with fail
      go_roundw
      case rel => exact ⟨k + 1,by omega,by go_num,hb5⟩
      case measure => simp [intOf];omega
    · have g2' : ¬ (k : Int) < (bs.length : Int) := by omega
      have HF : Hid (Below w.heap.size w wr) := HK.out.2.2.trans (hb.mono HK.out.2.2.size);clear C1 C2 RM RM' HP
      go_wp2_with fail
      go_ret;exact ⟨rfl,HF.out⟩
end Go.Proofs.YtaekdfknkgmfbaaGreatDoor
namespace Go.Proofs.YtaekdfknkgmfbaaGreatDoor
open Go.RowKit
set_option linter.unusedVariables false
set_option maxRecDepth 100000
theorem RS.of {B : Nat} {W : World} {v1 v2 vb : Value} {cs ps : List Int} {bks : List Bk} (h : RS B W v1 v2 vb cs ps bks) (y : B <= W.heap.size) (q : BelowOf W) : RS q.w'.heap.size q.w' v1 v2 vb cs ps bks := ((h.mono y).below q.h).mono q.h.size
theorem RS.nil (B : Nat) (w : World) : RS B w (.slice none 0 0) (.slice none 0 0) (.slice none 0 0) [] [] [] := ⟨⟨Reads.none _ _,Reads.none _ _⟩,readsB_nil _ _⟩
theorem BkFit.nl {y : Bk} (h : BkFit y) : y.nm.size <= maxLen := by have := h.nm;unfold maxLen;omega
theorem did_fits {s : Sf} {o : Oq} {ms : List Bk} (h : ms.map Bk.pb = (didOp s o).1.bs) : ∀ y ∈ ms,BkFit y := fun y hy => by
  cases hs : shelfOk s
  · rw [didOp_no hs] at h
    have : ms = [] := List.map_eq_nil_iff.1 h;subst this;cases hy
  · rw [didOp_yes hs] at h
    exact fit_right (do_inv ((shelfOk_iff s).1 hs) o) (by rw [<- h];exact List.mem_map_of_mem hy)
theorem did_ok {s : Sf} {o : Oq} (hs : shelfOk s = true) : shelfOk (didOp s o).1 = true := by
  rw [didOp_yes hs];exact (shelfOk_iff _).2 (do_inv ((shelfOk_iff s).1 hs) o)
theorem did_refused {s : Sf} {o : Oq} (hs : shelfOk s = true) (h : (didOp s o).2.1 ≠ 0) : (didOp s o).1 = s /\ (didOp s o).2.2 = 0 := by
  rw [didOp_yes hs] at h ⊢;exact do_refused s o h
theorem did_bad {s : Sf} {o : Oq} (hs : shelfOk s = true) : (didOp s o).2.1 = 1 ↔ opOk o = false := by
  rw [didOp_yes hs];exact do_bad s o
theorem sum_nonneg (l : List Int) (h : ∀ x ∈ l,0 <= x) : 0 <= sumI64 l := by
  induction l with
  | nil => exact Int.le_refl _
  | cons a t ih =>
    have e : sumI64 (a :: t) = a + sumI64 t := rfl;have h1 := h a (List.mem_cons_self ..);have h2 := ih (fun x hx => h x (List.mem_cons_of_mem _ hx))
    omega
theorem sum_append (a b : List Int) : sumI64 (a ++ b) = sumI64 a + sumI64 b := by
  induction a with
  | nil => show sumI64 b = 0 + sumI64 b;omega
  | cons x t ih =>
    have e : sumI64 (x :: t ++ b) = x + sumI64 (t ++ b) := rfl;have e2 : sumI64 (x :: t) = x + sumI64 t := rfl
    omega
theorem counts_few {s : Sf} (inv : ShInv s) : (∀ x ∈ s.cs,0 <= x) /\ sumI64 s.cs <= 96 /\ sumI64 s.cs = placesUsed s.bs := by
  have h2 := counts_places inv;have h3 := places_range s.bs;have h4 := inv.few;refine ⟨fun x hx => ?_,by rw [h2];omega,h2⟩;obtain ⟨k,hk,rfl⟩ := List.mem_iff_getElem.1 hx;have h5 := inv.cnt k hk;rw [List.getD_eq_getElem?_getD,List.getElem?_eq_getElem hk] at h5;simp only [Option.getD_some] at h5;rw [h5];exact cntAll_nonneg s.bs k
theorem sum_part {s : Sf} (inv : ShInv s) (j : Nat) : 0 <= sumI64 (s.cs.take j) /\ sumI64 (s.cs.take j) <= 96 := by
  obtain ⟨h1,h2,-⟩ := counts_few inv;have e := sum_append (s.cs.take j) (s.cs.drop j);rw [List.take_append_drop] at e;have a := sum_nonneg (s.cs.take j) (fun x hx => h1 x (List.mem_of_mem_take hx));have b := sum_nonneg (s.cs.drop j) (fun x hx => h1 x (List.mem_of_mem_drop hx))
  omega
theorem drawNewShelf_any (x : Option Addr) (len cap : Nat) (w : World) (hs : Src w w.heap.size x len) :
    Calls Tryz.prog 15 #[.slice x len cap] w fun e w' => ∃ n : Int,e = .returned (.int .i64 n) /\ (-1 <= n /\ n <= 26) /\ Below w.heap.size w w' := by
  go_enter Tryz.func15,Tryz.ntmps15
  go_wp2_with fail
  refine (drawNew_any x len cap _ hs).mono ?_;rintro e w1 ⟨n,rfl,hn,b⟩
  go_wp2_with fail
  go_ret;exact ⟨n,rfl,hn,b⟩
end Go.Proofs.YtaekdfknkgmfbaaGreatDoor
