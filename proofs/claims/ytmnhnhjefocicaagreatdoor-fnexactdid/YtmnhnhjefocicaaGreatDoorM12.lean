import Derived.Test.YtmnhnhjefocicaaGreatDoorM07
import Derived.Test.YtmnhnhjefocicaaGreatDoorM09
import Derived.Test.YtmnhnhjefocicaaGreatDoorM10
import Derived.Test.YtmnhnhjefocicaaGreatDoorM11
namespace Go.Proofs.YtmnhnhjefocicaaGreatDoor
open Go.RowKit
set_option linter.unusedVariables false
set_option maxRecDepth 100000
theorem op_parts {o : Oq} (h : opOk o = true) : Nums.nameB o.nm.data.toList = true /\ (1 <= o.k /\ o.k <= 9) /\ (kOther o.k = true -> Nums.nameB o.ot.data.toList = true) /\ (0 <= o.at_ /\ o.at_ <= 255) /\ (kSize o.k = true -> 1 <= o.va /\ o.va <= 16) /\ (o.k = 2 -> 0 <= o.va /\ o.va <= 999) := by
  simp only [opOk,Bool.and_eq_true,inB_iff] at h;obtain ⟨⟨⟨⟨⟨⟨⟨⟨h1,h2⟩,h3⟩,h4⟩,h5⟩,h6⟩,h7⟩,h8⟩,h9⟩ := h;refine ⟨h1,h2,fun q => ?_,h6,fun q => ?_,fun q => ?_⟩
  · rw [q] at h4;simpa using h4
  · unfold valOk at h9;rw [if_pos q,inB_iff] at h9;exact h9
  · unfold valOk at h9
    rw [q] at h9;simp only [kSize] at h9;rw [if_neg (by decide),if_pos (by trivial),inB_iff] at h9;exact h9
theorem refused_parts {bs : List Pb} {o : Oq} (h : refused bs o = 0) : (o.k ≠ 1 -> 0 <= findP bs o.nm) /\ (o.k = 1 -> findP bs o.nm < 0 /\ bs.length ≠ 6) /\ (kOther o.k = true -> findP bs o.ot < 0 /\ (o.k ≠ 1 -> bs.length ≠ 6)) /\ (o.k ≠ 1 -> kAt o.k = true -> o.at_ < (bookAt bs (findP bs o.nm)).sz) /\ (o.k = 8 -> (bookAt bs (findP bs o.nm)).ep ≠ 1000) := by
  unfold refused at h
  split at h
  · omega
  rename_i h1
  split at h
  · omega
  rename_i h2
  have a1 : o.k ≠ 1 -> 0 <= findP bs o.nm := fun q => by
    by_cases z : findP bs o.nm < 0
    · exact absurd ⟨q,z⟩ h1
    · omega
  have a3 : kOther o.k = true -> findP bs o.ot < 0 := fun q => by
    by_cases z : 0 <= findP bs o.ot
    · exact absurd (.inr ⟨q,z⟩) h2
    · omega
  have a2 : o.k = 1 -> findP bs o.nm < 0 := fun q => by
    by_cases z : 0 <= findP bs o.nm
    · exact absurd (.inl ⟨q,z⟩) h2
    · omega
  split at h
  · rename_i h3
    have a4 : bs.length ≠ 6 := fun q => by rw [if_pos q] at h;omega
    exact ⟨a1,fun q => ⟨a2 q,a4⟩,fun q => ⟨a3 q,fun _ => a4⟩,fun q => absurd h3 q,fun q => by omega⟩
  rename_i h3
  split at h
  · omega
  split at h
  · omega
  split at h
  · omega
  rename_i h6
  split at h
  · omega
  rename_i h7
  split at h
  · omega
  rename_i h8
  exact ⟨a1,fun q => absurd q h3,fun q => ⟨a3 q,fun _ z => h7 ⟨q,z⟩⟩,fun _ q => by
    by_cases z : (bookAt bs (findP bs o.nm)).sz <= o.at_
    · exact absurd ⟨q,z⟩ h6
    · omega,fun q z => h8 ⟨q,z⟩⟩
theorem filter_count (rs : List (Int × Int × Int)) (hm : mapOk rs = true) (k : Nat) : (pagesOf rs).count (k : Int) = (pages rs).count (k : Int) := by
  unfold pagesOf;rw [if_pos hm,List.count_filter (by simp)]
set_option maxHeartbeats 1600000 in
theorem kind_inv {s : Sf} (h : ShInv s) (o : Oq) (ho : opOk o = true) (hk : o.k = 9 \/ o.k = 8 \/ o.k = 7 \/ o.k = 3 \/ o.k = 2) (i : Nat) (hi : i < s.bs.length) (hat : kAt o.k = true -> o.at_ < s.bs[i].sz) (h8 : o.k = 8 -> s.bs[i].ep ≠ 1000) (page : Int) (hpg : page = if o.at_ < 16 then (pages s.bs[i].rs).getD o.at_.toNat 0 else -1) : ShInv (doKind s o i s.bs[i] page).1 := by
  obtain ⟨-,-,-,ha,hs7,hw2⟩ := op_parts ho;have hbo := h.oks _ (List.getElem_mem hi);obtain ⟨b1,b2,b3,b4,b5⟩ := book_parts hbo;unfold doKind;rcases hk with q | q | q | q | q
  · rw [if_pos q];exact h
  · rw [if_neg (by omega),if_pos q]
    refine h.put i hi { s.bs[i] with ep := s.bs[i].ep + 1 } (book_mk (b := { s.bs[i] with ep := s.bs[i].ep + 1 }) b1 b2 (by have := h8 q;simp only;omega) b4 b5) rfl s.cs s.ps h.cells (fun k hk => ?_) (fun k h1 h2 => cnt_out h i hi k h1 h2)
    show s.cs.getD k 0 = s.cs.getD k 0 - s.bs[i].cnt (k : Int) + s.bs[i].cnt (k : Int)
    omega
  · rw [if_neg (by omega),if_neg (by omega),if_pos q]
    have hv := hs7 (by rw [q];decide);obtain ⟨n,hn⟩ := Int.eq_ofNat_of_zero_le (show 0 <= o.va by omega);obtain ⟨c1,c2⟩ := cut_ok h i hi o.va.toNat (by omega);have p1 := cut_pages s.bs[i].rs b4 o.va.toNat (by omega)
    have hset : (cutBook s i o.va.toNat).bs = s.bs.set i { s.bs[i] with rs := mapOf (cutAt (pages s.bs[i].rs) (o.va.toNat : Nat)) } := by
      unfold cutBook;rw [bookAt_of s.bs i hi]
    have hbk : bookAt (cutBook s i o.va.toNat).bs i = { s.bs[i] with rs := mapOf (cutAt (pages s.bs[i].rs) (o.va.toNat : Nat)) } := by
      rw [hset,bookAt_of _ i (by simpa using hi),List.getElem_set_self]
    rw [hbk,hset,List.set_set];refine h.put i hi { s.bs[i] with rs := mapOf (cutAt (pages s.bs[i].rs) (o.va.toNat : Nat)),sz := o.va } (book_mk (b := { s.bs[i] with rs := mapOf (cutAt (pages s.bs[i].rs) (o.va.toNat : Nat)),sz := o.va }) b1 hv b3 p1.1 (by simp only;rw [show o.va = ((o.va.toNat : Nat) : Int) by omega];exact p1.2.2)) rfl _ _ c1 (fun k hk => ?_) (fun k h1 h2 => ?_)
    · rw [c2 k hk]
      show _ = s.cs.getD k 0 - ((pages s.bs[i].rs).count (k : Int) : Int) + ((pages (mapOf (cutAt (pages s.bs[i].rs) (o.va.toNat : Nat)))).count (k : Int) : Int)
      rw [p1.2.1,cutAt_count _ (pages_length _) _ (by omega)]
      omega
    · show ((pages (mapOf (cutAt (pages s.bs[i].rs) (o.va.toNat : Nat)))).count (k : Int) : Int) = 0
      rw [p1.2.1,cutAt_count _ (pages_length _) _ (by omega)];have := cnt_out h i hi k h1 h2;unfold Pb.cnt at this;have := (List.drop_sublist o.va.toNat (pages s.bs[i].rs)).count_le (k : Int)
      omega
  · rw [if_neg (by omega),if_neg (by omega),if_neg (by omega),if_pos q]
    have hlt := hat (by rw [q];decide);rw [if_pos (by omega)] at hpg
    split
    · rename_i h0
      obtain ⟨j,hj⟩ := Int.eq_ofNat_of_zero_le ha.1;have hjt : o.at_.toNat = j := by omega
      rw [hjt] at hpg ⊢;have hmem : page ∈ pages s.bs[i].rs := (mem_getD _ (pages_length _) _).2 ⟨j,by omega,hpg.symm⟩;obtain ⟨g1,g2⟩ := h.page i hi page hmem h0;obtain ⟨m,rfl⟩ := Int.eq_ofNat_of_zero_le h0;rw [Int.toNat_natCast] at g2;obtain ⟨c1,c2⟩ := dropOne_ok h.cells m (by omega) g2;have p1 := set_pages s.bs[i] hbo j (by omega) (-1) (by omega);refine h.put i hi { s.bs[i] with rs := mapOf ((pages s.bs[i].rs).set j (-1)) } (book_mk (b := { s.bs[i] with rs := mapOf ((pages s.bs[i].rs).set j (-1)) }) b1 b2 b3 p1.1 p1.2.2) rfl _ _ c1 (fun k hk => ?_) (fun k h1 h2 => ?_)
      · rw [c2]
        show _ = s.cs.getD k 0 - ((pages s.bs[i].rs).count (k : Int) : Int) + ((pages (mapOf ((pages s.bs[i].rs).set j (-1)))).count (k : Int) : Int)
        rw [p1.2.1,set_count _ j (by rw [pages_length];omega),<- hpg,if_neg (show ¬ (-1 : Int) = (k : Int) by omega)];by_cases e : m = k
        · subst e;rw [if_pos rfl,if_pos rfl];omega
        · rw [if_neg e,if_neg (by omega)];omega
      · show ((pages (mapOf ((pages s.bs[i].rs).set j (-1)))).count (k : Int) : Int) = 0
        rw [p1.2.1,set_count _ j (by rw [pages_length];omega),<- hpg,if_neg (show ¬ (-1 : Int) = (k : Int) by omega),if_neg (by omega)];have := cnt_out h i hi k h1 h2;unfold Pb.cnt at this
        omega
    · exact h
  · rw [if_neg (by omega),if_neg (by omega),if_neg (by omega),if_neg (by omega)]
    have hlt := hat (by rw [q];decide);have hv := hw2 q;rw [if_pos (by omega)] at hpg;obtain ⟨j,hj⟩ := Int.eq_ofNat_of_zero_le ha.1;have hjt : o.at_.toNat = j := by omega
    unfold doWrite;rw [hjt] at hpg ⊢
    split
    · rename_i h0
      obtain ⟨m,rfl⟩ := Int.eq_ofNat_of_zero_le h0.1;have hmem : (m : Int) ∈ pages s.bs[i].rs := (mem_getD _ (pages_length _) _).2 ⟨j,by omega,hpg.symm⟩;obtain ⟨g1,g2⟩ := h.page i hi _ hmem h0.1;rw [Int.toNat_natCast] at h0 g2 ⊢;exact ⟨h.n1,h.cells.same m (by omega) o.va hv (by omega),h.few,h.oks,h.srt,h.cnt,h.out⟩
    · rename_i h0
      split
      · rename_i hf
        obtain ⟨t1,t2⟩ := h.cells.took o.va hv hf;have htk : tookAt s.cs = (firstFree s.cs : Int) := by unfold tookAt;rw [if_pos hf]
        have hn24 := h.n1.2;have p1 := set_pages s.bs[i] hbo j (by omega) (tookAt s.cs) (by omega);have hfc : s.cs.getD (firstFree s.cs) 0 = 0 := firstFree_at s.cs hf;by_cases hp : 0 <= page
        · have hmem : page ∈ pages s.bs[i].rs := (mem_getD _ (pages_length _) _).2 ⟨j,by omega,hpg.symm⟩
          obtain ⟨g1,g2⟩ := h.page i hi page hmem hp;obtain ⟨m,rfl⟩ := Int.eq_ofNat_of_zero_le hp;rw [Int.toNat_natCast] at g2;have hmf : firstFree s.cs ≠ m := fun e => by rw [e] at hfc;omega
          have t3 := t2 m (by omega);rw [if_neg (by omega)] at t3;obtain ⟨c1,c2⟩ := dropOne_ok t1 m (by omega) (by omega);refine h.put i hi { s.bs[i] with rs := mapOf ((pages s.bs[i].rs).set j (tookAt s.cs)) } (book_mk (b := { s.bs[i] with rs := mapOf ((pages s.bs[i].rs).set j (tookAt s.cs)) }) b1 b2 b3 p1.1 p1.2.2) rfl _ _ c1 (fun k hk => ?_) (fun k h1 h2 => ?_)
          · rw [c2]
            show _ = s.cs.getD k 0 - ((pages s.bs[i].rs).count (k : Int) : Int) + ((pages (mapOf ((pages s.bs[i].rs).set j (tookAt s.cs)))).count (k : Int) : Int)
            rw [p1.2.1,set_count _ j (by rw [pages_length];omega),<- hpg,t2 k hk];by_cases e : m = k
            · subst e;rw [if_pos rfl,if_pos rfl];omega
            · rw [if_neg e,if_neg (show ¬ (m : Int) = (k : Int) by omega)];omega
          · show ((pages (mapOf ((pages s.bs[i].rs).set j (tookAt s.cs)))).count (k : Int) : Int) = 0
            rw [p1.2.1,set_count _ j (by rw [pages_length];omega),<- hpg,if_neg (by omega),if_neg (by omega)];have := cnt_out h i hi k h1 h2;unfold Pb.cnt at this
            omega
        · have hd : dropOne (tookC s.cs,tookP s.cs s.ps o.va) page = (tookC s.cs,tookP s.cs s.ps o.va) := by rw [dropOne,if_neg hp]
          rw [hd];refine h.put i hi { s.bs[i] with rs := mapOf ((pages s.bs[i].rs).set j (tookAt s.cs)) } (book_mk (b := { s.bs[i] with rs := mapOf ((pages s.bs[i].rs).set j (tookAt s.cs)) }) b1 b2 b3 p1.1 p1.2.2) rfl _ _ t1 (fun k hk => ?_) (fun k h1 h2 => ?_)
          · show _ = s.cs.getD k 0 - ((pages s.bs[i].rs).count (k : Int) : Int) + ((pages (mapOf ((pages s.bs[i].rs).set j (tookAt s.cs)))).count (k : Int) : Int)
            rw [p1.2.1,set_count _ j (by rw [pages_length];omega),<- hpg,t2 k hk,if_neg (show ¬ page = (k : Int) by omega)]
            omega
          · show ((pages (mapOf ((pages s.bs[i].rs).set j (tookAt s.cs)))).count (k : Int) : Int) = 0
            rw [p1.2.1,set_count _ j (by rw [pages_length];omega),<- hpg,if_neg (show ¬ page = (k : Int) by omega),if_neg (by omega)];have := cnt_out h i hi k h1 h2;unfold Pb.cnt at this
            omega
      · exact h
theorem do_inv {s : Sf} (h : ShInv s) (o : Oq) : ShInv (doOp s o).1 := by
  unfold doOp
  split
  · exact h
  rename_i ho
  have ho : opOk o = true := by simpa using ho
  split
  · exact h
  rename_i hr
  have hr : refused s.bs o = 0 := by simpa using hr
  obtain ⟨r1,r2,r3,r4,r5⟩ := refused_parts hr;obtain ⟨n1,n2,n3,n4,n5,n6⟩ := op_parts ho
  split
  · rename_i q
    obtain ⟨q1,q2⟩ := r2 q;have hf := h.few;refine h.insert ⟨o.nm,o.va,[],false,0⟩ (book_mk (b := ⟨o.nm,o.va,[],false,0⟩) n1 (n5 (by rw [q];decide)) (by simp only;omega) rfl rfl) q1 (by omega) s.cs h.cells (fun k hk => ?_) (fun k h1 h2 => cnt_empty _ _ _ _ _);rw [cnt_empty]
    omega
  rename_i q1
  have hfi := r1 q1;obtain ⟨i,hi,hfe,hnm⟩ := find_in s.bs o.nm (by omega);rw [hfe] at r4 r5 ⊢;rw [bookAt_of s.bs i hi] at r4 r5 ⊢;rw [Int.toNat_natCast]
  split
  · rename_i q6
    obtain ⟨c1,c2⟩ := cut_ok h i hi 0 (by omega);exact h.erase i hi _ _ c1 (fun k hk => by rw [c2 k hk,List.drop_zero];rfl)
  rename_i q6
  split
  · rename_i q5
    obtain ⟨t1,t2⟩ := r3 q5;obtain ⟨b1,b2,b3,b4,b5⟩ := book_parts (h.oks _ (List.getElem_mem hi));have hf := h.few;have ht2 := t2 q1
    have hpm : ∀ p ∈ pagesOf s.bs[i].rs,0 <= p /\ p ∈ pages s.bs[i].rs := fun p hp => by
      unfold pagesOf at hp;rw [if_pos b4,List.mem_filter,decide_eq_true_eq] at hp;exact ⟨hp.2,hp.1⟩
    obtain ⟨c1,c2⟩ := shareAll_ok (pagesOf s.bs[i].rs) h.cells (fun p hp => ⟨(hpm p hp).1,(h.page i hi p (hpm p hp).2 (hpm p hp).1).1⟩) (fun p hp => (h.page i hi p (hpm p hp).2 (hpm p hp).1).2);refine h.insert ⟨o.ot,s.bs[i].sz,s.bs[i].rs,decide (o.k = 4),0⟩ (book_mk (b := ⟨o.ot,s.bs[i].sz,s.bs[i].rs,decide (o.k = 4),0⟩) (n3 q5) b2 (by simp only;omega) b4 b5) t1 (by omega) _ c1 (fun k hk => ?_) (fun k h1 h2 => cnt_out h i hi k h1 h2);rw [c2 k hk,filter_count _ b4]
    rfl
  rename_i q5
  have hk : o.k = 9 \/ o.k = 8 \/ o.k = 7 \/ o.k = 3 \/ o.k = 2 := by
    have : ¬ (o.k = 4 \/ o.k = 5) := fun z => q5 (by unfold kOther;rcases z with z | z <;> simp [z])
    omega
  exact kind_inv h o ho hk i hi (r4 q1) r5 _ rfl
theorem do_refused (s : Sf) (o : Oq) (h : (doOp s o).2.1 ≠ 0) : (doOp s o).1 = s /\ (doOp s o).2.2 = 0 := by
  unfold doOp at h ⊢
  split
  · exact ⟨rfl,rfl⟩
  split
  · exact ⟨rfl,rfl⟩
  rename_i h1 h2
  rw [if_neg h1,if_neg h2] at h
  split at h
  · exact absurd rfl h
  split at h
  · exact absurd rfl h
  split at h
  · exact absurd rfl h
  rename_i h3 h4 h5
  rw [if_neg h3,if_neg h4,if_neg h5];generalize (if o.at_ < 16 then (pages (bookAt s.bs (findP s.bs o.nm)).rs).getD o.at_.toNat 0 else -1) = page at h ⊢;unfold doKind at h ⊢
  split at h
  · exact absurd rfl h
  split at h
  · exact absurd rfl h
  split at h
  · exact absurd rfl h
  split at h
  · split at h <;> exact absurd rfl h
  rename_i k1 k2 k3 k4
  rw [if_neg k1,if_neg k2,if_neg k3,if_neg k4];unfold doWrite at h ⊢
  split at h
  · exact absurd rfl h
  split at h
  · exact absurd rfl h
  rename_i m1 m2
  rw [if_neg m1,if_neg m2];exact ⟨rfl,rfl⟩
def Bk.pb (b : Bk) : Pb := ⟨b.nm,b.sz,b.rs,b.fx,b.ep⟩
theorem sorted_adj : ∀ (l : List ByteArray),(∀ (j : Nat) (h1 : j + 1 < l.length),ltB (l[j]'(by omega)) l[j + 1] = true) -> sortedB l = true
  | [],_ => rfl
  | [a],_ => rfl
  | a :: b :: t,h => by
    rw [sortedB,Bool.and_eq_true];refine ⟨h 0 (by simp),sorted_adj (b :: t) (fun j h1 => ?_)⟩;have := h (j + 1) (by simp at h1 ⊢;omega)
    simpa using this
theorem sorted_not (l : List ByteArray) (j : Nat) (h1 : j + 1 < l.length) (h : ltB (l[j]'(by omega)) l[j + 1] = false) : sortedB l = false := by
  rw [Bool.eq_false_iff];intro q;have := List.pairwise_iff_getElem.1 ((sorted_iff l).1 q) j (j + 1) (by omega) h1 (by omega);rw [h] at this;cases this
theorem shelf_no_pool (s : Sf) (h : poolOk s.cs s.ps = false) : shelfOk s = false := by simp [shelfOk,h]
theorem shelf_no_many (s : Sf) (h : 6 < s.bs.length) : shelfOk s = false := by
  have : decide (s.bs.length <= 6) = false := decide_eq_false (by omega);simp [shelfOk,this]
theorem shelf_no_book (s : Sf) (i : Nat) (hi : i < s.bs.length) (h : s.bs[i].ok = false) : shelfOk s = false := by
  have : s.bs.all Pb.ok = false := by
    rw [Bool.eq_false_iff];intro q;have := List.all_eq_true.1 q _ (List.getElem_mem hi);rw [h] at this;cases this
  simp [shelfOk,this]
theorem shelf_no_order (s : Sf) (i : Nat) (hi : i + 1 < s.bs.length) (h : ltB s.bs[i].nm s.bs[i + 1].nm = false) : shelfOk s = false := by
  have := sorted_not (s.bs.map Pb.nm) i (by simpa using hi) (by simpa using h);simp [shelfOk,this]
theorem shelf_no_count (s : Sf) (k : Nat) (hk : k < 24) (h : (k < s.cs.length /\ cntAll s.bs (k : Int) ≠ s.cs.getD k 0) \/ (s.cs.length <= k /\ 0 < cntAll s.bs (k : Int))) : shelfOk s = false := by
  have : countsOk s.cs s.bs = false := by
    rw [Bool.eq_false_iff];intro q;have := List.all_eq_true.1 q k (List.mem_range.2 hk)
    rcases h with ⟨h1,h2⟩ | ⟨h1,h2⟩
    · rw [if_pos h1,decide_eq_true_eq] at this
      exact h2 this
    · rw [if_neg (by omega),decide_eq_true_eq] at this
      omega
  simp [shelfOk,this]
theorem shelf_yes (s : Sf) (h1 : poolOk s.cs s.ps = true) (h2 : s.bs.length <= 6) (h3 : ∀ (i : Nat) (hi : i < s.bs.length),s.bs[i].ok = true) (h4 : ∀ (i : Nat) (hi : i + 1 < s.bs.length),ltB (s.bs[i]'(by omega)).nm s.bs[i + 1].nm = true)
    (h5 : ∀ k,k < 24 -> ¬ ((k < s.cs.length /\ cntAll s.bs (k : Int) ≠ s.cs.getD k 0) \/ (s.cs.length <= k /\ 0 < cntAll s.bs (k : Int)))) : shelfOk s = true := by
  unfold shelfOk;rw [Bool.and_eq_true,Bool.and_eq_true,Bool.and_eq_true,Bool.and_eq_true];refine ⟨⟨⟨⟨h1,decide_eq_true h2⟩,List.all_eq_true.2 (fun b hb => ?_)⟩,sorted_adj _ (fun j hj => by simpa using h4 j (by simpa using hj))⟩,List.all_eq_true.2 (fun k hk => ?_)⟩
  · obtain ⟨i,hi,rfl⟩ := List.getElem_of_mem hb
    exact h3 i hi
  · have hk := List.mem_range.1 hk
    have := h5 k hk
    split
    · rename_i hl
      refine decide_eq_true ?_;by_cases e : cntAll s.bs (k : Int) = s.cs.getD k 0
      · exact e
      · exact absurd (.inl ⟨hl,e⟩) this
    · rename_i hl
      refine decide_eq_true ?_;have h0 := cntAll_nonneg s.bs (k : Int);by_cases e : 0 < cntAll s.bs (k : Int)
      · exact absurd (.inr ⟨by omega,e⟩) this
      · omega
def row24 (f : Nat -> Int) : List Int := (List.range 24).map f
theorem row24_length (f : Nat -> Int) : (row24 f).length = 24 := by simp [row24]
theorem row24_get (f : Nat -> Int) (k : Nat) (h : k < 24) : (row24 f).getD k 0 = f k := by
  rw [getD_of _ k (by rw [row24_length];exact h)];simp [row24]
theorem row24_set (f : Nat -> Int) (m : Nat) (hm : m < 24) (v : Int) : (row24 f).set m v = row24 (fun k => if m = k then v else f k) := by
  apply List.ext_getElem (by simp [row24])
  intro k h1 h2;rw [List.getElem_set];by_cases e : m = k
  · subst e;simp [row24]
  · simp [row24,e]
theorem row24_zero : List.replicate 24 (0 : Int) = row24 (fun _ => 0) := by decide
theorem row24_congr (f g : Nat -> Int) (h : ∀ k,k < 24 -> f k = g k) : row24 f = row24 g := by
  unfold row24;exact List.map_congr_left (fun k hk => h k (List.mem_range.1 hk))
theorem count_take (l : List Int) (j : Nat) (hj : j < l.length) (k : Int) : ((l.take (j + 1)).count k : Int) = ((l.take j).count k : Int) + (if l[j] = k then 1 else 0) := by
  rw [List.take_succ_eq_append_getElem hj,List.count_append,List.count_singleton];by_cases e : l[j] = k
  · rw [if_pos (by rw [beq_iff_eq];exact e),if_pos e];omega
  · rw [if_neg (by rw [beq_iff_eq];exact e),if_neg e];omega
theorem cntAll_take (bs : List Pb) (i : Nat) (hi : i < bs.length) (p : Int) : cntAll (bs.take (i + 1)) p = cntAll (bs.take i) p + bs[i].cnt p := by
  rw [List.take_succ_eq_append_getElem hi,cntAll_append,cntAll_cons];have : cntAll ([] : List Pb) p = 0 := rfl
  omega
theorem pagesOf_cnt (b : Pb) (h : b.ok = true) (k : Nat) : ((pagesOf b.rs).count (k : Int) : Int) = b.cnt (k : Int) := by
  rw [filter_count _ (book_parts h).2.2.2.1]
  rfl
theorem pagesOf_in (rs : List (Int × Int × Int)) (h : mapOk rs = true) (p : Int) (hp : p ∈ pagesOf rs) : 0 <= p /\ p <= 23 := by
  unfold pagesOf at hp;rw [if_pos h,List.mem_filter,decide_eq_true_eq] at hp;obtain ⟨j,hj,e⟩ := (mem_getD _ (pages_length _) p).1 hp.1;have := (pages_range rs h j hj).2
  omega
structure RS (B : Nat) (w : World) (v1 v2 vb : Value) (cs ps : List Int) (bks : List Bk) : Prop where
  p : RP B w v1 v2 cs ps
  b : ReadsB B w vb bks
theorem RS.below {B : Nat} {w w' : World} {v1 v2 vb : Value} {cs ps : List Int} {bks : List Bk} (h : RS B w v1 v2 vb cs ps bks) (k : Below B w w') : RS B w' v1 v2 vb cs ps bks := ⟨h.p.below k,h.b.below k⟩
theorem RS.mono {B B' : Nat} {w : World} {v1 v2 vb : Value} {cs ps : List Int} {bks : List Bk} (h : RS B w v1 v2 vb cs ps bks) (k : B <= B') : RS B' w v1 v2 vb cs ps bks := ⟨h.p.mono k,h.b.mono k⟩
theorem RS.forms {B : Nat} {w : World} {v1 v2 vb : Value} {cs ps : List Int} {bks : List Bk} (h : RS B w v1 v2 vb cs ps bks) : ∃ o1 k1 o2 k2 ob kb,v1 = .slice o1 cs.length k1 /\ v2 = .slice o2 ps.length k2 /\ vb = .slice ob bks.length kb := by
  obtain ⟨o1,k1,o2,k2,e1,e2⟩ := h.p.forms;obtain ⟨ob,kb,e3,-⟩ := h.b.row;exact ⟨o1,k1,o2,k2,ob,kb,e1,e2,e3⟩
structure OwnS (base : Nat) (w : World) (v1 v2 vb : Value) (cs ps : List Int) (bks : List Bk) : Prop where
  p : OwnP base w v1 v2 cs ps
  b : OwnB base w vb bks
  a : ApartM bks
theorem OwnS.below {base : Nat} {w w' : World} {v1 v2 vb : Value} {cs ps : List Int} {bks : List Bk} (h : OwnS base w v1 v2 vb cs ps bks) (k : Below w.heap.size w w') : OwnS base w' v1 v2 vb cs ps bks := ⟨h.p.below k,h.b.below k,h.a⟩
theorem OwnS.mono {base base' : Nat} {w : World} {v1 v2 vb : Value} {cs ps : List Int} {bks : List Bk} (h : OwnS base w v1 v2 vb cs ps bks) (k : base' <= base) : OwnS base' w v1 v2 vb cs ps bks := ⟨h.p.mono k,h.b.mono k,h.a⟩
theorem OwnS.reads {base : Nat} {w : World} {v1 v2 vb : Value} {cs ps : List Int} {bks : List Bk} (h : OwnS base w v1 v2 vb cs ps bks) : RS w.heap.size w v1 v2 vb cs ps bks := ⟨h.p.reads,h.b.reads⟩
theorem OwnB.upto {base c : Nat} {w w' : World} {v : Value} {bs : List Bk} (h : OwnB base w v bs) (u : Upto c w w') (hc : c < base) : OwnB base w' v bs := ⟨ownsRow_upto h.row u hc,fun b hb => ownsRow_upto (h.maps b hb) u hc⟩
theorem OwnS.upto {base c : Nat} {w w' : World} {v1 v2 vb : Value} {cs ps : List Int} {bks : List Bk} (h : OwnS base w v1 v2 vb cs ps bks) (u : Upto c w w') (hc : c < base) : OwnS base w' v1 v2 vb cs ps bks := ⟨h.p.upto u hc,h.b.upto u hc,h.a⟩
theorem OwnS.forms {base : Nat} {w : World} {v1 v2 vb : Value} {cs ps : List Int} {bks : List Bk} (h : OwnS base w v1 v2 vb cs ps bks) : ∃ o1 k1 o2 k2 ob kb,v1 = .slice o1 cs.length k1 /\ v2 = .slice o2 ps.length k2 /\ vb = .slice ob bks.length kb := h.reads.forms
theorem pb_of_plain {bs ms : List Bk} (h : ms.map plainB = bs.map plainB) : ms.map Bk.pb = bs.map Bk.pb := by
  have := congrArg (List.map (fun x : ByteArray × Int × List (Int × Int × Int) × Bool × Int => (⟨x.1,x.2.1,x.2.2.1,x.2.2.2.1,x.2.2.2.2⟩ : Pb))) h;simp only [List.map_map] at this;exact this
theorem plain_of_pb {bs ms : List Bk} (h : ms.map Bk.pb = bs.map Bk.pb) : ms.map plainB = bs.map plainB := by
  have := congrArg (List.map (fun x : Pb => (x.nm,x.sz,x.rs,x.fx,x.ep))) h;simp only [List.map_map] at this;exact this
theorem plain_all (Q : ByteArray -> List (Int × Int × Int) -> Prop) {bs ms : List Bk} (h : ms.map plainB = bs.map plainB) (hq : ∀ b ∈ bs,Q b.nm b.rs) : ∀ b ∈ ms,Q b.nm b.rs := fun b hb => by
  obtain ⟨j,hj,rfl⟩ := List.getElem_of_mem hb;have hl := plain_len h;have e := plain_at h j hj (by omega);have hx := hq _ (List.getElem_mem (show j < bs.length by omega));simp only [plainB,Prod.mk.injEq] at e;rw [e.1,e.2.2.1];exact hx
set_option maxHeartbeats 3200000 in
theorem toShelf_any (v1 v2 vb : Value) (cs ps : List Int) (bks : List Bk) (w : World) (hc : cs.length <= 1048576) (hp : ps.length <= 1048576) (hb : bks.length <= 1048576) (hr : ∀ b ∈ bks,b.rs.length <= 1048576) (r : RS w.heap.size w v1 v2 vb cs ps bks) :
    Calls Tryz.prog 27 #[.agg #[v1,v2,vb]] w fun e w' => ∃ (u1 u2 ub : Value) (ms : List Bk),e = .returned (.agg #[u1,u2,ub]) /\ ms.map plainB = bks.map plainB /\ OwnS w.heap.size w' u1 u2 ub cs ps ms /\ Below w.heap.size w w' := by
  obtain ⟨o1,k1,o2,k2,ob,kb,rfl,rfl,rfl⟩ := r.forms;obtain ⟨W0,hW0,kA,kR,kO,d0,z0⟩ := box3 w #[.slice o1 cs.length k1,.slice o2 ps.length k2,.slice ob bks.length kb] #[.slice none 0 0,.slice none 0 0,.slice none 0 0] #[.slice none 0 0,.slice none 0 0,.slice none 0 0] 56 42 42;have HW0 : Hid (W0 = _) := hW0;have HR : Hid _ := hr
  have r0 := (r.below d0)
  have z0a : w.heap.size + 1 + 1 + 1 <= W0.heap.size := by omega
  clear hW0 z0 r hr
  go_enter Tryz.func27,Tryz.ntmps27
  go_wp2_with fail
  rw [<- HW0.out];clear HW0;refine (toPool_any _ _ cs ps _ hc hp (r0.p.mono (by omega))).mono ?_;rintro e w1 ⟨u1,u2,rfl,own1,b1⟩;obtain ⟨q1,c1,q2,c2,e1,e2⟩ := own1.forms;subst e1 e2;replace kA := (b1.block _ (by omega)).trans kA;replace kR := (b1.block _ (by omega)).trans kR;replace kO := (b1.block _ (by omega)).trans kO;have z1 := b1.size;replace d0 := bw_call d0 b1;replace r0 := r0.below (b1.mono (by omega));have c0 := at_cell kO 0;have c0' := at_cell kO 1;have f0 := at_open kO 0;have f0' := at_open kO 1;have u : Upto (w.heap.size + 1 + 1) w1 ((w1.setCell ⟨w.heap.size + 1 + 1,0,none⟩ (.slice q1 cs.length c1)).setCell ⟨w.heap.size + 1 + 1,1,none⟩ (.slice q2 ps.length c2)) := ((Upto.refl _ _).setCell ⟨w.heap.size + 1 + 1,0,none⟩ (.inl rfl) _).setCell ⟨w.heap.size + 1 + 1,1,none⟩ (.inl rfl) _;replace kO := set_at (set_at kO 0 (.slice q1 cs.length c1)) 1 (.slice q2 ps.length c2);replace kA := (u.block _ (by omega) (by omega)).trans kA;replace kR := (u.block _ (by omega) (by omega)).trans kR;replace own1 := own1.upto u (by omega);replace d0 := d0.trans (u.toBelow (by omega) (by omega));replace r0 := r0.below (u.toBelow (by omega) (by omega));have z2 := u.size;have p1 := at_cell kA 2;clear b1 u
  go_wp2_with fail
  generalize (w1.setCell ⟨w.heap.size + 1 + 1,0,none⟩ (.slice q1 cs.length c1)).setCell ⟨w.heap.size + 1 + 1,1,none⟩ (.slice q2 ps.length c2) = w2 at *;clear f0 c0 f0' c0' p1;refine (toBooksA_any _ bks _ hb HR.out (r0.b.mono (by omega))).mono ?_;rintro e w3 ⟨ms,rfl,hpl,ownB,apa,b3⟩;replace kR := (b3.block _ (by omega)).trans kR;replace kO := (b3.block _ (by omega)).trans kO;replace own1 := own1.below b3;have z3 := b3.size;replace d0 := bw_call d0 b3;have c0 := at_cell kO 0;have c1' := at_cell kO 1;have c2' := at_cell kO 2;have f2' := at_open kO 2;have u : Upto (w.heap.size + 1 + 1) w3 (w3.setCell ⟨w.heap.size + 1 + 1,2,none⟩ (.slice (some ⟨w2.heap.size,0,none⟩) bks.length bks.length)) := (Upto.refl _ _).setCell ⟨w.heap.size + 1 + 1,2,none⟩ (.inl rfl) _;replace kO := set_at kO 2 (.slice (some ⟨w2.heap.size,0,none⟩) bks.length bks.length);replace kR := (u.block _ (by omega) (by omega)).trans kR;replace own1 := own1.upto u (by omega);replace ownB := ownB.upto u (by omega);replace d0 := d0.trans (u.toBelow (by omega) (by omega));have z4 := u.size;have q0 := at_cell kR 0;have q1' := at_cell kR 1;have q2' := at_cell kR 2;have g0 := at_open kR 0;have g1 := at_open kR 1;have g2 := at_open kR 2;obtain ⟨a0,a1,a2⟩ := c3 kO;have kE := set_at (set_at (set_at kR 0 (.slice q1 cs.length c1)) 1 (.slice q2 ps.length c2)) 2 (.slice (some ⟨w2.heap.size,0,none⟩) bks.length bks.length);have uE : ∀ X : World,Upto (w.heap.size + 1) X (((X.setCell ⟨w.heap.size + 1,0,none⟩ (.slice q1 cs.length c1)).setCell ⟨w.heap.size + 1,1,none⟩ (.slice q2 ps.length c2)).setCell ⟨w.heap.size + 1,2,none⟩ (.slice (some ⟨w2.heap.size,0,none⟩) bks.length bks.length)) := fun X => (((Upto.refl _ _).setCell ⟨w.heap.size + 1,0,none⟩ (.inl rfl) _).setCell ⟨w.heap.size + 1,1,none⟩ (.inl rfl) _).setCell ⟨w.heap.size + 1,2,none⟩ (.inl rfl) _
  have HS : Hid _ := And.intro kE (And.intro ((own1.upto (uE _) (by omega)).mono (show w.heap.size <= W0.heap.size by omega)) (And.intro ((ownB.upto (uE _) (by omega)).mono (show w.heap.size <= w2.heap.size by omega)) (d0.trans ((uE _).toBelow (by omega) (by omega)))));have HPL : Hid _ := hpl;have HAP : Hid _ := apa;clear b3 u kE uE kR kO kA own1 ownB d0 r0 hpl apa
  go_wp2_with fail
  exact bodyPost_ret (v := .agg #[.slice q1 cs.length c1,.slice q2 ps.length c2,.slice (some ⟨w2.heap.size,0,none⟩) bks.length bks.length]) (by simp [results,Tryz.results27,go_sem,at_cell HS.out.1]) rfl ⟨_,_,_,ms,rfl,HPL.out,⟨HS.out.2.1,HS.out.2.2.1,HAP.out⟩,HS.out.2.2.2⟩
set_option maxHeartbeats 1600000 in
theorem eqShelf_same (v1 v2 vb x1 x2 xb : Value) (cs ps : List Int) (bks ms : List Bk) (w : World) (hp : ms.map plainB = bks.map plainB) (r : RS w.heap.size w v1 v2 vb cs ps bks) (r' : RS w.heap.size w x1 x2 xb cs ps ms) :
    Calls Tryz.prog 30 #[.agg #[v1,v2,vb],.agg #[x1,x2,xb]] w fun e w' => e = .returned (.bool true) /\ Below w.heap.size w w' := by
  obtain ⟨o1,k1,o2,k2,ob,kb,rfl,rfl,rfl⟩ := r.forms;obtain ⟨o3,k3,o4,k4,oc,kc,rfl,rfl,rfl⟩ := r'.forms;obtain ⟨W0,hW0,kA,kB,d0,z0⟩ := box2 w #[.slice o1 cs.length k1,.slice o2 ps.length k2,.slice ob bks.length kb] #[.slice o3 cs.length k3,.slice o4 ps.length k4,.slice oc ms.length kc] 42 42;have HW0 : Hid (W0 = _) := hW0;have HP : Hid _ := hp;have r0 := (r.below d0).mono d0.size;have r1 := (r'.below d0).mono d0.size;clear hW0 z0 r r' hp
  go_enter Tryz.func30,Tryz.ntmps30
  go_wp2_with fail
  rw [<- HW0.out];clear HW0;refine (eqPool_any _ _ _ _ cs ps cs ps _ r0.p r1.p).mono ?_;rintro e w1 ⟨rfl,b1⟩;replace kA := (b1.block _ (heap_lt kA)).trans kA;replace kB := (b1.block _ (heap_lt kB)).trans kB;replace d0 := bw_call d0 b1;replace r0 := (r0.below b1).mono b1.size;replace r1 := (r1.below b1).mono b1.size;clear b1;have e1 : (decide (cs = cs) && decide (ps = ps)) = true := by simp
  have pA := at_cell kA 2;have pB := at_cell kB 2
  go_wp2_with fail
  clear pA pB;refine (eqBooks_same _ _ bks ms _ HP.out r0.b r1.b).mono ?_;rintro e w2 ⟨rfl,b2⟩;replace d0 := bw_call d0 b2;clear b2 kA kB r0 r1
  go_wp2_with fail
  go_ret;exact ⟨rfl,d0⟩
end Go.Proofs.YtmnhnhjefocicaaGreatDoor
namespace Go.Proofs.YtmnhnhjefocicaaGreatDoor
open Go.ChangeShapes Go.WideShapes Go.ChangeAt Go.RowKit Go.Deep Go.Joins
set_option linter.unusedVariables false
set_option maxRecDepth 100000
theorem row_books {H : Type} {enc : TypeId × Value -> H} {W : World} {n : Nat} {v : Value} {y : DataW H × List MemPlace} (h : DataW.trod enc Tryz.prog W 0 (fun _ => true) true n 54 [v] = some y) :
    ∃ bs : List Bk,ReadsB W.heap.size W v bs /\ ∀ b ∈ bs,FitRuns b.rs /\ b.nm.size <= maxLen := by
  rcases open_slice Tryz.underlying54 h with ⟨hcs,_⟩ | ⟨a,len,cap,m,k,D,Pl,hcs,_,hl,hm,hmm,_,hx⟩
  · simp at hcs
    subst hcs;exact ⟨[],⟨ReadsR.nil _ _ _ _,fun b hb => by cases hb⟩,fun b hb => by cases hb⟩
  · simp at hcs
    subst hcs;have hlm : len <= m := by rw [hmm];split <;> omega
    have ce : Tryz.prog.cellsOf 163 = 5 := by kernel_rfl
    have each : ∀ i,i < len -> ∃ b : Bk,(∀ j u,(bookC b)[j]? = some u -> W.cell? (a.add (i * 5 + j)) = some u) /\ ReadsR 3 runC W.heap.size W b.m b.rs /\ FitRuns b.rs /\ b.nm.size <= maxLen := by
      intro i hi;obtain ⟨cs',h1,h2⟩ := hx i (by omega);rw [ce] at h1;obtain ⟨_,hlen,hcell⟩ := World.cells?_some h1;obtain ⟨b,rfl,hr,hfit,hnn,-,-⟩ := book_cells h2;refine ⟨b,fun j u hj => ?_,hr,hfit,hnn⟩;have hj5 : j < 5 := by have := (List.getElem?_eq_some_iff.1 hj).1;rwa [bookC_len] at this
      have q := hcell j hj5;rw [add_add] at q;rw [q];exact hj
    have hin : Inhabited Bk := ⟨⟨ByteArray.empty,0,.slice none 0 0,[],false,0⟩⟩
    obtain ⟨r,hr⟩ := choose_lt each
    have hmem : ∀ x ∈ (List.range len).map r,ReadsR 3 runC W.heap.size W x.m x.rs /\ FitRuns x.rs /\ x.nm.size <= maxLen := fun x hx => by
      obtain ⟨i,hi,rfl⟩ := List.mem_map.1 hx;exact (hr i (List.mem_range.1 hi)).2
    refine ⟨(List.range len).map r,⟨⟨some a,cap,by simp,by simp;omega,fun i x hi => ?_,by simp;omega⟩,fun b hb => (hmem b hb).1⟩,fun b hb => (hmem b hb).2⟩;have hil : i < len := by have := (List.getElem?_eq_some_iff.1 hi).1;simpa using this
    have ex : r i = x := by
      rw [List.getElem?_map,List.getElem?_range hil] at hi
      simpa using hi
    have h0 := (hr i hil).1;rw [ex] at h0;obtain ⟨b,off,spot⟩ := a;have hspot : spot = none := by simpa [Addr.add] using World.cell?_spot ((hr 0 (by omega)).1 0 _ rfl)
    subst hspot;have e : ∀ z,(⟨b,off,none⟩ : Addr).add z = ⟨b,off + z,none⟩ := fun z => by unfold Addr.add;split <;> simp_all
    have hb : b < W.heap.size := by
      have q := h0 0 _ rfl;rw [e] at q;rcases Nat.lt_or_ge b W.heap.size with g | g
      · exact g
      · simp [World.cell?,Array.getElem?_eq_none g] at q
    refine ⟨b,off,rfl,hb,fun j u hj => ?_⟩;have q := h0 j u hj;rw [e] at q;rw [Nat.add_assoc];exact q
theorem list3 {α : Type} {cs : List α} (h : cs.length = 3) : ∃ c0 c1 c2,cs = [c0,c1,c2] := by
  match cs,h with
  | [c0,c1,c2],_ => exact ⟨c0,c1,c2,rfl⟩
theorem list2 {α : Type} {cs : List α} (h : cs.length = 2) : ∃ c0 c1,cs = [c0,c1] := by
  match cs,h with
  | [c0,c1],_ => exact ⟨c0,c1,rfl⟩
theorem open_shelf {H : Type} {enc : TypeId × Value -> H} {W : World} {base : Nat} {v : Value} {d : DataW H} {p : List MemPlace} (hv : Value.okWide Tryz.prog W .any base 56 v) (h : DataW.Trod enc Tryz.prog W 0 (fun _ => true) true 56 v d p) :
    ∃ (v1 v2 vb : Value) (cs ps : List Int) (bks : List Bk),v = .agg #[v1,v2,vb] /\ RS W.heap.size W v1 v2 vb cs ps bks /\ ∀ b ∈ bks,FitRuns b.rs /\ b.nm.size <= maxLen := by
  obtain ⟨cs,rfl,hsz⟩ := okWide_struct Tryz.underlying56 hv;obtain ⟨fuel,hf0⟩ := h;have ce : Tryz.prog.cellsOf 56 = 3 := by kernel_rfl
  have cp : Tryz.prog.cellsOf 53 = 2 := by kernel_rfl
  have c1 : Tryz.prog.cellsOf 37 = 1 := by kernel_rfl
  have c4 : Tryz.prog.cellsOf 54 = 1 := by kernel_rfl
  obtain ⟨xs,m,_,-,hl,hlen,hf⟩ := DataW.trod_struct Tryz.underlying56 hf0;obtain ⟨v0,v1,v2,e3⟩ := list3 (hl.trans ce);rw [e3] at hf;obtain ⟨y0,y1,rfl⟩ := list2 (show xs.length = 2 from hlen);have t0 := hf 0 _ rfl;have t1 := hf 1 _ rfl;simp [cp,c4] at t0 t1;obtain ⟨xs',m',_,-,hl',hlen',hf'⟩ := DataW.trod_struct Tryz.underlying53 t0;obtain ⟨z0,z1,rfl⟩ := list2 (show xs'.length = 2 from hlen');have s0 := hf' 0 _ rfl;have s1 := hf' 1 _ rfl;simp [c1] at s0 s1;obtain ⟨ics,r1,_⟩ := row_i64 s0;obtain ⟨ips,r2,_⟩ := row_i64 s1;obtain ⟨bks,r3,hb⟩ := row_books t1;refine ⟨v0,v1,v2,ics,ips,bks,?_,⟨⟨r1,r2⟩,r3⟩,hb⟩;have e4 : cs.toList = [v0,v1,v2] := by simpa [Value.cells] using e3
  rw [show cs = #[v0,v1,v2] by rw [<- Array.toArray_toList (xs := cs),e4]]
end Go.Proofs.YtmnhnhjefocicaaGreatDoor
