import Derived.Laws.MakeOwn
import Derived.Test.YtcefcglonooelaaGreatDoorA01
import Derived.Test.YtcefcglonooelaaGreatDoorA02
import Derived.Test.YtcefcglonooelaaGreatDoorA05
import Derived.Test.YtcefcglonooelaaGreatDoorA08
namespace Go.Proofs.YtcefcglonooelaaGreatDoor
open Go.RowKit
set_option linter.unusedVariables false
set_option maxRecDepth 100000
def Bk.pb (b : Bk) : Pb := ⟨b.nm,b.sz,b.rs,b.fx,b.ep⟩
theorem sorted_adj : ∀ (l : List ByteArray),(∀ (j : Nat) (h1 : j + 1 < l.length),ltB (l[j]'(by omega)) l[j + 1] = true) -> sortedB l = true
  | [],_ => rfl
  | [a],_ => rfl
  | a :: b :: t,h => by
    rw [sortedB,Bool.and_eq_true];refine ⟨h 0 (by simp),sorted_adj (b :: t) (fun j h1 => ?_)⟩;have := h (j + 1) (by simp at h1 ⊢;omega)
    simpa using this
theorem sorted_not (l : List ByteArray) (j : Nat) (h1 : j + 1 < l.length) (h : ltB (l[j]'(by omega)) l[j + 1] = false) : sortedB l = false := by
  rw [Bool.eq_false_iff];intro q;have := List.pairwise_iff_getElem.1 ((sorted_iff l).1 q) j (j + 1) (by omega) h1 (by omega);rw [h] at this;cases this
theorem shelf_no_pool (s : Sf) (h : poolOk s.cs s.ps = false) : shelfOk s = false := by simp [shelfOk,h]
theorem shelf_no_many (s : Sf) (h : 6 < s.bs.length) : shelfOk s = false := by
  have : decide (s.bs.length <= 6) = false := decide_eq_false (by omega);simp [shelfOk,this]
theorem shelf_no_book (s : Sf) (i : Nat) (hi : i < s.bs.length) (h : s.bs[i].ok = false) : shelfOk s = false := by
  have : s.bs.all Pb.ok = false := by
    rw [Bool.eq_false_iff];intro q;have := List.all_eq_true.1 q _ (List.getElem_mem hi);rw [h] at this;cases this
  simp [shelfOk,this]
theorem shelf_no_order (s : Sf) (i : Nat) (hi : i + 1 < s.bs.length) (h : ltB s.bs[i].nm s.bs[i + 1].nm = false) : shelfOk s = false := by
  have := sorted_not (s.bs.map Pb.nm) i (by simpa using hi) (by simpa using h);simp [shelfOk,this]
theorem shelf_no_count (s : Sf) (k : Nat) (hk : k < 24) (h : (k < s.cs.length /\ cntAll s.bs (k : Int) ≠ s.cs.getD k 0) \/ (s.cs.length <= k /\ 0 < cntAll s.bs (k : Int))) : shelfOk s = false := by
  have : countsOk s.cs s.bs = false := by
    rw [Bool.eq_false_iff];intro q;have := List.all_eq_true.1 q k (List.mem_range.2 hk)
    rcases h with ⟨h1,h2⟩ | ⟨h1,h2⟩
    · rw [if_pos h1,decide_eq_true_eq] at this
      exact h2 this
    · rw [if_neg (by omega),decide_eq_true_eq] at this
      omega
  simp [shelfOk,this]
theorem shelf_yes (s : Sf) (h1 : poolOk s.cs s.ps = true) (h2 : s.bs.length <= 6) (h3 : ∀ (i : Nat) (hi : i < s.bs.length),s.bs[i].ok = true) (h4 : ∀ (i : Nat) (hi : i + 1 < s.bs.length),ltB (s.bs[i]'(by omega)).nm s.bs[i + 1].nm = true)
    (h5 : ∀ k,k < 24 -> ¬ ((k < s.cs.length /\ cntAll s.bs (k : Int) ≠ s.cs.getD k 0) \/ (s.cs.length <= k /\ 0 < cntAll s.bs (k : Int)))) : shelfOk s = true := by
  unfold shelfOk;rw [Bool.and_eq_true,Bool.and_eq_true,Bool.and_eq_true,Bool.and_eq_true];refine ⟨⟨⟨⟨h1,decide_eq_true h2⟩,List.all_eq_true.2 (fun b hb => ?_)⟩,sorted_adj _ (fun j hj => by simpa using h4 j (by simpa using hj))⟩,List.all_eq_true.2 (fun k hk => ?_)⟩
  · obtain ⟨i,hi,rfl⟩ := List.getElem_of_mem hb
    exact h3 i hi
  · have hk := List.mem_range.1 hk
    have := h5 k hk
    split
    · rename_i hl
      refine decide_eq_true ?_;by_cases e : cntAll s.bs (k : Int) = s.cs.getD k 0
      · exact e
      · exact absurd (.inl ⟨hl,e⟩) this
    · rename_i hl
      refine decide_eq_true ?_;have h0 := cntAll_nonneg s.bs (k : Int);by_cases e : 0 < cntAll s.bs (k : Int)
      · exact absurd (.inr ⟨by omega,e⟩) this
      · omega
def row24 (f : Nat -> Int) : List Int := (List.range 24).map f
theorem row24_length (f : Nat -> Int) : (row24 f).length = 24 := by simp [row24]
theorem row24_get (f : Nat -> Int) (k : Nat) (h : k < 24) : (row24 f).getD k 0 = f k := by
  rw [getD_of _ k (by rw [row24_length];exact h)];simp [row24]
theorem row24_set (f : Nat -> Int) (m : Nat) (hm : m < 24) (v : Int) : (row24 f).set m v = row24 (fun k => if m = k then v else f k) := by
  apply List.ext_getElem (by simp [row24])
  intro k h1 h2;rw [List.getElem_set];by_cases e : m = k
  · subst e;simp [row24]
  · simp [row24,e]
theorem row24_zero : List.replicate 24 (0 : Int) = row24 (fun _ => 0) := by decide
theorem row24_congr (f g : Nat -> Int) (h : ∀ k,k < 24 -> f k = g k) : row24 f = row24 g := by
  unfold row24;exact List.map_congr_left (fun k hk => h k (List.mem_range.1 hk))
theorem count_take (l : List Int) (j : Nat) (hj : j < l.length) (k : Int) : ((l.take (j + 1)).count k : Int) = ((l.take j).count k : Int) + (if l[j] = k then 1 else 0) := by
  rw [List.take_succ_eq_append_getElem hj,List.count_append,List.count_singleton];by_cases e : l[j] = k
  · rw [if_pos (by rw [beq_iff_eq];exact e),if_pos e];omega
  · rw [if_neg (by rw [beq_iff_eq];exact e),if_neg e];omega
theorem cntAll_take (bs : List Pb) (i : Nat) (hi : i < bs.length) (p : Int) : cntAll (bs.take (i + 1)) p = cntAll (bs.take i) p + bs[i].cnt p := by
  rw [List.take_succ_eq_append_getElem hi,cntAll_append,cntAll_cons];have : cntAll ([] : List Pb) p = 0 := rfl
  omega
theorem pagesOf_cnt (b : Pb) (h : b.ok = true) (k : Nat) : ((pagesOf b.rs).count (k : Int) : Int) = b.cnt (k : Int) := by
  rw [filter_count _ (book_parts h).2.2.2.1]
  rfl
theorem pagesOf_in (rs : List (Int × Int × Int)) (h : mapOk rs = true) (p : Int) (hp : p ∈ pagesOf rs) : 0 <= p /\ p <= 23 := by
  unfold pagesOf at hp;rw [if_pos h,List.mem_filter,decide_eq_true_eq] at hp;obtain ⟨j,hj,e⟩ := (mem_getD _ (pages_length _) p).1 hp.1;have := (pages_range rs h j hj).2
  omega
end Go.Proofs.YtcefcglonooelaaGreatDoor
namespace Go.Proofs.YtcefcglonooelaaGreatDoor
set_option linter.unusedVariables false
set_option maxRecDepth 100000
theorem new_inv (n : Int) (h : 1 <= n /\ n <= 24) : ShInv ⟨(newPool n).1.1,(newPool n).1.2,[]⟩ := by
  have e : newPool n = ((List.replicate n.toNat 0,List.replicate n.toNat 0),true) := by rw [newPool,if_pos h]
  rw [e]
  have g : ∀ k : Nat,(List.replicate n.toNat (0 : Int)).getD k 0 = 0 := fun k => by
    rw [List.getD_eq_getElem?_getD,List.getElem?_replicate]
    split <;> rfl
  refine ⟨?_,⟨rfl,?_,?_⟩,?_,?_,?_,?_,?_⟩
  · simp only [List.length_replicate];omega
  · simp only [List.length_replicate]
  · intro k _
    rw [g k]
    omega
  · exact Nat.zero_le _
  · intro b hb;cases hb
  · exact List.Pairwise.nil
  · intro k _
    show (List.replicate n.toNat (0 : Int)).getD k 0 = _
    rw [g k]
    rfl
  · intro k _ _
    rfl
end Go.Proofs.YtcefcglonooelaaGreatDoor
namespace Go.Proofs.YtcefcglonooelaaGreatDoor
open Go.RowKit
set_option linter.unusedVariables false
set_option maxRecDepth 100000
theorem made_ints (n : Nat) (hn : n <= 1048576) : ∃ M : Array Value,M.toList = (List.replicate n (0 : Int)).map (Value.int .i64) /\ (∀ W : World,(Instr.makeSlice 37 (.int .i64 (n : Int)) (.int .i64 (n : Int))).run Tryz.prog W = .ok (.slice (some ⟨W.heap.size,0,none⟩) n n) (W.alloc (.cells M 2))) /\
    ∀ (W : World) (base : Nat),base <= W.heap.size -> (W.alloc (.cells M 2)).ownsRow base 2 1 (.slice (some ⟨W.heap.size,0,none⟩) n n) n ((List.replicate n (0 : Int)).map (Value.int .i64)) := by
  obtain ⟨i0,hi,hz0,hz1,hz2⟩ := info_parts Tryz.infoI64
  have e : (madeCells (Value.int .i64 0).cells n).toList = (List.replicate n (0 : Int)).map (Value.int .i64) := by
    show (madeCells #[.int .i64 0] n).toList = _
    rw [toList_madeCells_one];simp
  refine ⟨madeCells (Value.int .i64 0).cells n,e,fun W => ?_,fun W base hb => ?_⟩
  · have h := run_make (P := Tryz.prog) W 37 2 i0 (.int .i64 0) Tryz.underlying37 hi hz0 .i64 .i64 (n : Int) (n : Int) (by omega) (by omega) (by rw [hz2];omega) (by omega)
    rw [hz1,Nat.mul_one,Int.toNat_natCast] at h
    simpa using h
  · have h := World.ownsRow_lit (base := base) (size := 1) (e := 2) W (madeCells (Value.int .i64 0).cells n) n hb (by unfold maxLen;omega) (by rw [size_madeCells];omega)
    rwa [e] at h
theorem int_ne {x y : Int} (h : (x != y) = true) : x ≠ y := by simpa using h
theorem int_same {x y : Int} (h : (x != y) = false) : x = y := by simpa using h
set_option maxHeartbeats 800000 in
theorem likeInts_any (v1 v2 : Value) (xs ys : List Int) (w : World) (h1 : Reads w.heap.size w v1 (xs.map (Value.int .i64))) (h2 : Reads w.heap.size w v2 (ys.map (Value.int .i64))) :
    Calls Tryz.prog 44 #[v1,v2] w fun e w' => e = .returned (.bool (decide (xs = ys))) /\ Below w.heap.size w w' := by
  obtain ⟨o1,cap1,rfl,m1,c1,-⟩ := h1;obtain ⟨o2,cap2,rfl,m2,c2,-⟩ := h2;simp only [List.length_map] at m1 m2 c1 c2 ⊢;by_cases hlen : xs.length = ys.length
  · rw [<- hlen]
    have C1 : Hid (∀ j u,(xs.map (Value.int .i64))[j]? = some u -> ∃ g off,o1 = some ⟨g,off,none⟩ /\ g < w.heap.size /\ w.cell? ⟨g,off + j,none⟩ = some u) := c1;have C2 : Hid (∀ j u,(ys.map (Value.int .i64))[j]? = some u -> ∃ g off,o2 = some ⟨g,off,none⟩ /\ g < w.heap.size /\ w.cell? ⟨g,off + j,none⟩ = some u) := c2;have HL : Hid (xs.length = ys.length) := hlen;have hle : ys.length <= xs.length := by omega
    have hge : xs.length <= ys.length := by omega
    unfold maxLen at m1;clear c1 c2 m2 hlen
    go_enter Tryz.func44,Tryz.ntmps44
    go_wp2
    go_loopw [5] (fun i wr => ∃ k : Nat,k <= xs.length /\ i = .int .i64 k /\ xs.take k = ys.take k /\ Below w.heap.size w wr) (fun i _ => xs.length - (intOf i).toNat)
    case atStart => exact ⟨0,Nat.zero_le _,rfl,rfl,Below.refl _ _⟩
    case round =>
      obtain ⟨k,hk,rfl,htk,hb⟩ := hrel;have HT : Hid (xs.take k = ys.take k) := htk;clear htk;by_cases hlt : k < xs.length
      · have hlt2 : k < ys.length := by omega
        obtain ⟨g1,of1,rfl,q1,cc1⟩ := C1.out k (.int .i64 xs[k]) (by simp [hlt]);obtain ⟨g2,of2,rfl,q2,cc2⟩ := C2.out k (.int .i64 ys[k]) (by simp [hlt2]);generalize hx : xs[k] = x at cc1;generalize hy : ys[k] = y at cc2;have HX : Hid (xs[k] = x) := hx;have HY : Hid (ys[k] = y) := hy;clear hx hy C1 C2;have d1 := (hb.cell (p := ⟨g1,of1 + k,none⟩) q1).trans cc1;have d2 := (hb.cell (p := ⟨g2,of2 + k,none⟩) q2).trans cc2;clear cc1 cc2
        go_wp2
        go_quiet (fail)
        go_wp2
        · have hne : x ≠ y := int_ne (by assumption)
          rw [<- HX.out,<- HY.out] at hne;go_ret;exact ⟨ret_bool (by simp [ne_at xs ys k hlt hlt2 hne]),⟨hb.os,hb.tape,hb.output,hb.size,hb.block⟩⟩
        · have he : x = y := int_same (by assumption)
          rw [<- HX.out,<- HY.out] at he
          go_roundw
          case rel => exact ⟨k + 1,by omega,by go_num,take_more xs ys k hlt hlt2 HT.out he,⟨hb.os,hb.tape,hb.output,hb.size,hb.block⟩⟩
          case measure => simp [intOf];omega
      · go_wp2
        go_ret;exact ⟨ret_bool (by simp [all_taken xs ys k hlt HL.out HT.out]),hb⟩
  · have hn : ((xs.length : Int) != (ys.length : Int)) = true := by rw [bne_iff_ne];omega
    have HX : Hid (decide (xs = ys) = false) := by rw [Hid,decide_eq_false_iff_not];intro e;rw [e] at hlen;exact hlen rfl
    unfold maxLen at m1 m2;clear hlen c1 c2
    go_enter Tryz.func44,Tryz.ntmps44
    go_wp2
    go_ret;exact ⟨ret_bool HX.out.symm,Below.refl _ _⟩
theorem pool_box (w : World) (v1 v2 : Value) (T : TypeId) : ∃ W0,W0 = w.alloc (.cells #[v1,v2] T) /\ W0.heap[w.heap.size]? = some (.cells #[v1,v2] T (0,0)) /\ Below w.heap.size w W0 /\ W0.heap.size = w.heap.size + 1 :=
  ⟨_,rfl,heap_alloc_new w _,bw_alloc (Below.refl _ _),by simp⟩
theorem getD_some (xs : List Int) (j : Nat) (h : j < xs.length) : (xs.map (Value.int .i64))[j]? = some (.int .i64 (xs.getD j 0)) := by
  rw [List.getElem?_map,List.getElem?_eq_getElem h,List.getD_eq_getElem?_getD,List.getElem?_eq_getElem h];rfl
set_option maxHeartbeats 1600000 in
theorem specPoolOk_any (v1 v2 : Value) (cs ps : List Int) (w : World) (h1 : Reads w.heap.size w v1 (cs.map (Value.int .i64))) (h2 : Reads w.heap.size w v2 (ps.map (Value.int .i64))) :
    Calls Tryz.prog 57 #[.agg #[v1,v2]] w fun e w' => e = .returned (.bool (poolOk cs ps)) /\ Below w.heap.size w w' := by
  obtain ⟨o1,cap1,rfl,m1,c1,-⟩ := h1;obtain ⟨o2,cap2,rfl,m2,c2,-⟩ := h2;simp only [List.length_map] at m1 m2 ⊢;have C1 : Hid (∀ j u,(cs.map (Value.int .i64))[j]? = some u -> ∃ g off,o1 = some ⟨g,off,none⟩ /\ g < w.heap.size /\ w.cell? ⟨g,off + j,none⟩ = some u) := c1;have C2 : Hid (∀ j u,(ps.map (Value.int .i64))[j]? = some u -> ∃ g off,o2 = some ⟨g,off,none⟩ /\ g < w.heap.size /\ w.cell? ⟨g,off + j,none⟩ = some u) := c2;clear c1 c2;unfold maxLen at m1 m2;obtain ⟨W0,hW0,k0,d0,z0⟩ := pool_box w (.slice o1 cs.length cap1) (.slice o2 ps.length cap2) 39;have HW0 : Hid (W0 = _) := hW0;have p0 := at_cell k0 0;have p1 := at_cell k0 1;clear hW0 k0;by_cases hl : (decide ((1 : Int) <= (cs.length : Int)) && decide ((cs.length : Int) <= 24)) = true
  · by_cases he : ps.length = cs.length
    · have hne : ((ps.length : Int) != (cs.length : Int)) = false := by simp [he]
      have hb : 1 <= cs.length /\ cs.length <= 24 := by simp at hl;omega
      have HE : Hid (ps.length = cs.length) := he;have he1 : ps.length <= cs.length := by omega
      have he2 : cs.length <= ps.length := by omega
      clear he
      go_enter Tryz.func57,Tryz.ntmps57
      go_wp2_with fail
      rw [<- HW0.out];clear HW0;refine (l1In_any _ _ _ _).mono ?_;rintro e w' ⟨rfl,rfl⟩;rw [hl]
      go_wp2_with fail
      go_loopw [3] (fun i wr => ∃ k : Nat,k <= cs.length /\ i = .int .i64 k /\ (∀ j,j < k -> cellOk (cs.getD j 0) (ps.getD j 0) = true) /\ wr = w') (fun i _ => cs.length - (intOf i).toNat)
      case atStart => exact ⟨0,Nat.zero_le _,rfl,fun j hj => by omega,rfl⟩
      case round =>
        obtain ⟨k,hk,rfl,hall,rfl⟩ := hrel;have HA : Hid (∀ j,j < k -> cellOk (cs.getD j 0) (ps.getD j 0) = true) := hall;clear hall;by_cases hlt : k < cs.length
        · obtain ⟨g1,of1,rfl,q1,cc1⟩ := C1.out k _ (getD_some cs k hlt)
          obtain ⟨g2,of2,rfl,q2,cc2⟩ := C2.out k _ (getD_some ps k (by omega));have d1 := (d0.cell (p := ⟨g1,of1 + k,none⟩) q1).trans cc1;have d2 := (d0.cell (p := ⟨g2,of2 + k,none⟩) q2).trans cc2
          have HN : Hid (cellOk (cs.getD k 0) (ps.getD k 0) = true -> ∀ j,j < k + 1 -> cellOk (cs.getD j 0) (ps.getD j 0) = true) := fun h j hj => by
            rcases Nat.lt_or_ge j k with q | q
            · exact HA.out j q
            · obtain rfl : j = k := by omega
              exact h
          have HNo : Hid (cellOk (cs.getD k 0) (ps.getD k 0) = false -> poolOk cs ps = false) := fun h => poolOk_no cs ps fun q => by rw [q.2.2.2 k hlt] at h;cases h
          clear C1 C2 cc1 cc2 HA;have hle2 : (k : Int) < (ps.length : Int) := by rw [HE.out];omega
          generalize cs.getD k 0 = c at *;generalize ps.getD k 0 = p at *;have HK : Hid (cellOk c p = ((decide (0 <= c) && decide (c <= 400)) && (decide (0 <= p) && decide (p <= 999)) && !(decide (c = 0) && !decide (p = 0)))) := rfl;cases hc : (decide (0 <= c) && decide (c <= 400))
          · go_wp2_with fail
            refine (l1In_any _ _ _ _).mono ?_;rintro e w1 ⟨rfl,rfl⟩;rw [hc]
            go_wp2_with fail
            go_ret;exact ⟨ret_bool (HNo.out (by rw [HK.out,hc];rfl)).symm,d0⟩
          · cases hp : (decide (0 <= p) && decide (p <= 999))
            · go_wp2_with fail
              refine (l1In_any _ _ _ _).mono ?_;rintro e w1 ⟨rfl,rfl⟩;rw [hc]
              go_wp2_with fail
              refine (l1In_any _ _ _ _).mono ?_;rintro e w1 ⟨rfl,rfl⟩;rw [hp]
              go_wp2_with fail
              go_ret;exact ⟨ret_bool (HNo.out (by rw [HK.out,hc,hp];rfl)).symm,d0⟩
            · by_cases hc0 : c = 0
              · by_cases hp0 : p = 0
                · have HOK : Hid (cellOk c p = true) := by rw [Hid,HK.out,hc,hp];simp [hp0]
                  subst hc0 hp0
                  go_wp2_with fail
                  refine (l1In_any _ _ _ _).mono ?_;rintro e w1 ⟨rfl,rfl⟩
                  go_wp2_with fail
                  refine (l1In_any _ _ _ _).mono ?_;rintro e w1 ⟨rfl,rfl⟩
                  go_wp2_with fail
                  go_roundw
                  case rel => exact ⟨k + 1,by omega,by go_num,HN.out HOK.out,by trivial⟩
                  case measure => simp [intOf];omega
                · have HNO : Hid (cellOk c p = false) := by rw [Hid,HK.out,hc,hp];simp [hp0,hc0]
                  subst hc0;have hp1 : (p != 0) = true := by simpa using hp0
                  go_wp2_with fail
                  refine (l1In_any _ _ _ _).mono ?_;rintro e w1 ⟨rfl,rfl⟩
                  go_wp2_with fail
                  refine (l1In_any _ _ _ _).mono ?_;rintro e w1 ⟨rfl,rfl⟩;rw [hp]
                  go_wp2_with fail
                  go_ret;exact ⟨ret_bool (HNo.out HNO.out).symm,d0⟩
              · have HOK : Hid (cellOk c p = true) := by rw [Hid,HK.out,hc,hp];simp [hc0]
                have hc1 : (c == 0) = false := by simpa using hc0
                go_wp2_with fail
                refine (l1In_any _ _ _ _).mono ?_;rintro e w1 ⟨rfl,rfl⟩;rw [hc]
                go_wp2_with fail
                refine (l1In_any _ _ _ _).mono ?_;rintro e w1 ⟨rfl,rfl⟩;rw [hp]
                go_wp2_with fail
                go_roundw
                case rel => exact ⟨k + 1,by omega,by go_num,HN.out HOK.out,by trivial⟩
                case measure => simp [intOf];omega
        · have hv : poolOk cs ps = true := (poolOk_iff cs ps).2 ⟨hb.1,hb.2,HE.out,fun j hj => HA.out j (by omega)⟩
          go_wp2_with fail
          go_ret;exact ⟨ret_bool hv.symm,d0⟩
    · have hne : ((ps.length : Int) != (cs.length : Int)) = true := by simp;omega
      have hv : poolOk cs ps = false := poolOk_no cs ps fun q => he q.2.2.1
      rw [hv]
      go_enter Tryz.func57,Tryz.ntmps57
      go_wp2_with fail
      rw [<- HW0.out];clear HW0;refine (l1In_any _ _ _ _).mono ?_;rintro e w' ⟨rfl,rfl⟩;rw [hl]
      go_wp2_with fail
      go_ret;exact ⟨rfl,d0⟩
  · have hf : (decide ((1 : Int) <= (cs.length : Int)) && decide ((cs.length : Int) <= 24)) = false := by simpa using hl
    have hv : poolOk cs ps = false := poolOk_no cs ps fun q => hl (by simp;omega)
    rw [hv]
    go_enter Tryz.func57,Tryz.ntmps57
    go_wp2_with fail
    rw [<- HW0.out];clear HW0;refine (l1In_any _ _ _ _).mono ?_;rintro e w' ⟨rfl,rfl⟩;rw [hf]
    go_wp2_with fail
    go_ret;exact ⟨rfl,d0⟩
end Go.Proofs.YtcefcglonooelaaGreatDoor
