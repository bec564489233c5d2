import Derived.Test.YtcefcglonooelaaGreatDoorA04
import Derived.Test.YtcefcglonooelaaGreatDoorA15
import Derived.Test.YtcefcglonooelaaGreatDoorA33
namespace Go.Proofs.YtcefcglonooelaaGreatDoor
set_option linter.unusedVariables false
set_option maxRecDepth 100000
theorem nm_ne {s : Sf} (h : ShInv s) (i j : Nat) (hi : i < s.bs.length) (hj : j < s.bs.length) (hij : i ≠ j) : (s.bs[i]'hi).nm ≠ (s.bs[j]'hj).nm := by
  have hp := List.pairwise_iff_getElem.1 h.srt;rcases Nat.lt_or_ge i j with g | g
  · have := hp i j (by simpa using hi) (by simpa using hj) g
    simp only [List.getElem_map] at this;intro e;rw [e,ltB_irrefl] at this;cases this
  · have := hp j i (by simpa using hj) (by simpa using hi) (by omega)
    simp only [List.getElem_map] at this;intro e;rw [e,ltB_irrefl] at this;cases this
theorem other_same {s : Sf} (h : ShInv s) (o : Oq) (i : Nat) (hi : i < s.bs.length) (hn : (s.bs[i]'hi).nm = o.nm) (j : Nat) (hj : j < s.bs.length) (hij : j ≠ i) : shownP (doOp s o).1.ps (s.bs[j]'hj) = shownP s.ps (s.bs[j]'hj) := by
  unfold shownP;rw [(keep_shown h o j hj (by rw [<- hn];exact nm_ne h j i hj hi hij)).2]
theorem map_others {f f' : Pb -> Pv} {bs : List Pb} {i : Nat} (hi : i < bs.length) (b' : Pb) (h : ∀ j (hj : j < bs.length),j ≠ i -> f' (bs[j]'hj) = f (bs[j]'hj)) : (bs.set i b').map f' = (bs.map f).set i (f' b') := by
  refine List.ext_getElem (by simp) (fun j h1 h2 => ?_);simp only [List.length_map,List.length_set] at h1;rw [List.getElem_map,List.getElem_set,List.getElem_set];by_cases e : i = j
  · rw [if_pos e,if_pos e]
  · rw [if_neg e,if_neg e,List.getElem_map]
    exact h j h1 (fun z => e z.symm)
theorem as_delete {s : Sf} {o : Oq} (h : ShInv s) (h0 : opOk o = true) (h1 : refused s.bs o = 0) (hk : o.k = 6) (told : Int) : ((doOp s o).1.bs.map (shownP (doOp s o).1.ps),(doOp s o).2) = doPlain (s.bs.map (shownP s.ps)) o told := by
  have hp := (refused_parts h1).1 (by omega);obtain ⟨i,hi,hf,hn⟩ := find_in s.bs o.nm (by omega);have hos := other_same h o i hi hn;generalize hD : doOp s o = D at hos ⊢;unfold doOp at hD;rw [if_neg (by rw [h0];decide),if_neg (by rw [h1];simp),if_neg (by omega),if_pos hk] at hD;subst hD;generalize hP : doPlain (s.bs.map (shownP s.ps)) o told = E;unfold doPlain at hP;rw [shown_refused,shown_find] at hP;rw [if_neg (by rw [h0];decide),if_neg (by rw [h1];simp),if_neg (by omega),if_neg (by omega),if_pos hk] at hP;subst hP;rw [hf,Int.toNat_natCast] at hos ⊢;simp only at hos ⊢;refine Prod.ext ?_ rfl
  show (s.bs.take i ++ s.bs.drop (i + 1)).map _ = (s.bs.map (shownP s.ps)).take i ++ (s.bs.map (shownP s.ps)).drop (i + 1)
  rw [List.map_append,<- List.map_take,<- List.map_drop]
  congr 1
  · refine List.map_congr_left (fun b hb => ?_)
    obtain ⟨j,hj,rfl⟩ := List.mem_iff_getElem.1 hb;rw [List.length_take] at hj;rw [List.getElem_take];exact hos j (by omega) (by omega)
  · refine List.map_congr_left (fun b hb => ?_)
    obtain ⟨j,hj,rfl⟩ := List.mem_iff_getElem.1 hb;rw [List.length_drop] at hj;rw [List.getElem_drop];exact hos (i + 1 + j) (by omega) (by omega)
theorem shownV_put {ps ps' : List Int} {rs rs' : List (Int × Int × Int)} {n a : Nat} {v : Int} (h : ∀ k,k < n -> valAt ps' rs' k = if k = a then v else valAt ps rs k) : shownV ps' rs' n = (shownV ps rs n).set a v := by
  refine List.ext_getElem (by simp [shownV]) (fun k h1 h2 => ?_);simp only [shownV,List.length_map,List.length_range] at h1;rw [List.getElem_set];simp only [shownV,List.getElem_map,List.getElem_range];rw [h k h1];by_cases e : k = a
  · rw [if_pos e,if_pos e.symm]
  · rw [if_neg e,if_neg (fun z => e z.symm)]
theorem page_cnt {s : Sf} (h : ShInv s) (i : Nat) (hi : i < s.bs.length) (k : Nat) (hk : k < 16) (q : Nat) (hq : (pages (s.bs[i]'hi).rs).getD k 0 = (q : Int)) : q < s.cs.length /\ 1 <= (s.bs[i]'hi).cnt (q : Int) /\ (s.bs[i]'hi).cnt (q : Int) <= s.cs.getD q 0 := by
  have hl : k < (pages (s.bs[i]'hi).rs).length := by rw [pages_length];exact hk
  have hm : (q : Int) ∈ pages (s.bs[i]'hi).rs := by
    rw [<- hq,List.getD_eq_getElem?_getD,List.getElem?_eq_getElem hl];exact List.getElem_mem hl
  have h1 := (h.page i hi (q : Int) hm (by omega)).1;refine ⟨by omega,mem_cnt hm,?_⟩;rw [h.cnt q (by omega)];exact cntAll_at s.bs i hi (q : Int)
theorem page_twice {b : Pb} (a k : Nat) (ha : a < 16) (hk : k < 16) (hak : a ≠ k) (q : Nat) (h1 : (pages b.rs).getD a 0 = (q : Int)) (h2 : (pages b.rs).getD k 0 = (q : Int)) : 2 <= b.cnt (q : Int) := by
  have hl : (pages b.rs).length = 16 := pages_length _;have hc := set_count (pages b.rs) a (by omega) (-1) q;rw [if_pos h1,if_neg (by omega)] at hc
  have hm : (q : Int) ∈ (pages b.rs).set a (-1) := by
    have hk2 : k < ((pages b.rs).set a (-1)).length := by rw [List.length_set];omega
    have e : ((pages b.rs).set a (-1))[k]'hk2 = (q : Int) := by
      rw [List.getElem_set_ne hak];rw [List.getD_eq_getElem?_getD,List.getElem?_eq_getElem (by omega)] at h2
      simpa using h2
    rw [<- e];exact List.getElem_mem hk2
  have hp := List.count_pos_iff.2 hm;unfold Pb.cnt
  omega
theorem own_keep {s : Sf} (h : ShInv s) (i : Nat) (hi : i < s.bs.length) (a k : Nat) (ha : a < 16) (hk : k < 16) (hak : a ≠ k) (cs ps : List Int) (page : Int) (hpg : page = (pages (s.bs[i]'hi).rs).getD a 0) (r : Nat) (hr : (pages (s.bs[i]'hi).rs).getD k 0 = (r : Int)) (hl : cs.length = s.cs.length) (hc : cs.getD r 0 = s.cs.getD r 0) : (dropOne (cs,ps) page).2.getD r 0 = ps.getD r 0 := by
  obtain ⟨h1,h2,h3⟩ := page_cnt h i hi k hk r hr;have e : dropAll (cs,ps) [page] = dropOne (cs,ps) page := rfl;rw [<- e];refine dropAll_keep [page] cs ps r (by omega) ?_;rw [hc];by_cases z : page = (r : Int)
  · have := page_twice (b := s.bs[i]'hi) a k ha hk hak r (by rw [<- hpg];exact z) hr
    rw [z,List.count_cons_self,List.count_nil]
    omega
  · rw [List.count_cons_of_ne (fun y => z y),List.count_nil]
    omega
theorem valAt_neg {ps : List Int} {rs : List (Int × Int × Int)} {k : Nat} (h : (pages rs).getD k 0 < 0) : valAt ps rs k = 0 := by rw [valAt,if_pos h]
theorem valAt_pos {ps : List Int} {rs : List (Int × Int × Int)} {k r : Nat} (h : (pages rs).getD k 0 = (r : Int)) : valAt ps rs k = ps.getD r 0 := by rw [valAt,h,if_neg (by omega),Int.toNat_natCast]
theorem set_self {l : List Pv} {i : Nat} {p : Pv} (hi : i < l.length) (h : l[i] = p) : l.set i p = l := by
  subst h;exact List.set_getElem_self hi
theorem as_trim {s : Sf} {o : Oq} (h : ShInv s) (h0 : opOk o = true) (h1 : refused s.bs o = 0) (hk : o.k = 3) (told : Int) : ((doOp s o).1.bs.map (shownP (doOp s o).1.ps),(doOp s o).2) = doPlain (s.bs.map (shownP s.ps)) o told := by
  have hp := (refused_parts h1).1 (by omega);have hat := (refused_parts h1).2.2.2.1 (by omega) (by rw [hk];rfl);have hb := opOk_bd o h0;obtain ⟨i,hi,hf,hn⟩ := find_in s.bs o.nm (by omega);have e : bookAt s.bs (i : Int) = s.bs[i] := by simp [bookAt,List.getD_eq_getElem?_getD,hi]
  have hsz := (shown_parts h i hi).2.1;have hbo := h.oks _ (List.getElem_mem hi);have ho : kOther o.k = false := by rw [hk];rfl
  have hos := other_same h o i hi hn;generalize hD : doOp s o = D at hos ⊢;unfold doOp at hD;rw [if_neg (by rw [h0];decide),if_neg (by rw [h1];simp),if_neg (by omega),if_neg (by omega),if_neg (by rw [ho];decide)] at hD;generalize hP : doPlain (s.bs.map (shownP s.ps)) o told = E;unfold doPlain at hP;rw [shown_refused,shown_find] at hP;rw [if_neg (by rw [h0];decide),if_neg (by rw [h1];simp),if_neg (by omega),if_neg (by omega),if_neg (by omega),if_neg (by rw [ho];decide)] at hP;rw [hf,e] at hat;rw [hf,Int.toNat_natCast,e,if_pos (show o.at_ < 16 by omega)] at hD;rw [hf,Int.toNat_natCast,shown_at _ _ _ hi] at hP;unfold doOne at hP;rw [if_neg (by omega),if_neg (by omega),if_neg (by omega),if_pos hk] at hP;subst hP;unfold doKind at hD;rw [if_neg (by omega),if_neg (by omega),if_neg (by omega),if_pos hk] at hD
  obtain ⟨a,ha⟩ : ∃ a : Nat,o.at_.toNat = a := ⟨_,rfl⟩
  rw [ha] at hD ⊢;have ha16 : a < 16 := by omega
  have haz : a < (s.bs[i]).sz.toNat := by omega
  by_cases hpage : 0 <= (pages s.bs[i].rs).getD a 0
  · rw [if_pos hpage] at hD
    subst hD;refine Prod.ext ?_ rfl;have p1 := set_pages s.bs[i] hbo a (by omega) (-1) (by omega)
    show (s.bs.set i _).map _ = _
    rw [map_others hi _ hos]
    congr 1
    show Pv.mk _ _ (shownV _ _ _) _ _ = Pv.mk _ _ _ _ _
    congr 1
    refine shownV_put (fun k hkk => ?_);have hkz : k < (s.bs[i]).sz.toNat := hkk;have hk16 : k < 16 := by omega
    have hl : k < (pages s.bs[i].rs).length := by rw [pages_length];exact hk16
    by_cases ek : k = a
    · rw [if_pos ek,ek]
      refine valAt_neg ?_;rw [p1.2.1,List.getD_eq_getElem?_getD,List.getElem?_set_self (by rw [<- ek];exact hl)]
      show (-1 : Int) < 0
      omega
    · rw [if_neg ek]
      have eg : (pages (mapOf ((pages s.bs[i].rs).set a (-1)))).getD k 0 = (pages s.bs[i].rs).getD k 0 := by
        rw [p1.2.1,List.getD_eq_getElem?_getD,List.getD_eq_getElem?_getD,List.getElem?_set_ne (fun z => ek z.symm)]
      by_cases hneg : (pages s.bs[i].rs).getD k 0 < 0
      · rw [valAt_neg hneg,valAt_neg (by rw [eg];exact hneg)]
      · obtain ⟨r,hr⟩ : ∃ r : Nat,(pages s.bs[i].rs).getD k 0 = (r : Int) := ⟨((pages s.bs[i].rs).getD k 0).toNat,by omega⟩
        rw [valAt_pos hr,valAt_pos (by rw [eg];exact hr)];exact own_keep h i hi a k ha16 hk16 (fun z => ek z.symm) s.cs s.ps _ rfl r hr rfl rfl
  · rw [if_neg hpage] at hD
    subst hD;refine Prod.ext ?_ rfl
    show s.bs.map (shownP s.ps) = (s.bs.map (shownP s.ps)).set i _
    refine (set_self (by simpa using hi) ?_).symm;rw [List.getElem_map]
    show Pv.mk _ _ (shownV _ _ _) _ _ = Pv.mk _ _ _ _ _
    congr 1
    refine shownV_put (fun k hkk => ?_);by_cases ek : k = a
    · rw [if_pos ek,ek]
      exact valAt_neg (by omega)
    · rw [if_neg ek]
theorem as_write {s : Sf} {o : Oq} (h : ShInv s) (h0 : opOk o = true) (h1 : refused s.bs o = 0) (hk : o.k = 2) : ((doOp s o).1.bs.map (shownP (doOp s o).1.ps),(doOp s o).2) = doPlain (s.bs.map (shownP s.ps)) o (doOp s o).2.1 := by
  have hp := (refused_parts h1).1 (by omega);have hat := (refused_parts h1).2.2.2.1 (by omega) (by rw [hk];rfl);have hb := opOk_bd o h0;obtain ⟨i,hi,hf,hn⟩ := find_in s.bs o.nm (by omega);have e : bookAt s.bs (i : Int) = s.bs[i] := by simp [bookAt,List.getD_eq_getElem?_getD,hi]
  have hsz := (shown_parts h i hi).2.1;have hbo := h.oks _ (List.getElem_mem hi);have ho : kOther o.k = false := by rw [hk];rfl
  have hos := other_same h o i hi hn;generalize hD : doOp s o = D at hos ⊢;unfold doOp at hD;rw [if_neg (by rw [h0];decide),if_neg (by rw [h1];simp),if_neg (by omega),if_neg (by omega),if_neg (by rw [ho];decide)] at hD;generalize hP : doPlain (s.bs.map (shownP s.ps)) o D.2.1 = E;unfold doPlain at hP;rw [shown_refused,shown_find] at hP;rw [if_neg (by rw [h0];decide),if_neg (by rw [h1];simp)] at hP;rw [hf,e] at hat;rw [hf,Int.toNat_natCast,e,if_pos (show o.at_ < 16 by omega)] at hD;rw [hf,Int.toNat_natCast,shown_at _ _ _ hi] at hP;unfold doKind at hD;rw [if_neg (by omega),if_neg (by omega),if_neg (by omega),if_neg (by omega)] at hD
  have hone : ∀ l p,doOne l o i p = (l.set i { p with vs := p.vs.set o.at_.toNat o.va },(0,0)) := fun l p => by
    unfold doOne;rw [if_neg (by omega),if_neg (by omega),if_neg (by omega),if_neg (by omega)]
  rw [hone] at hP
  obtain ⟨a,ha⟩ : ∃ a : Nat,o.at_.toNat = a := ⟨_,rfl⟩
  rw [ha] at hD hP;have ha16 : a < 16 := by omega
  have hla : a < (pages s.bs[i].rs).length := by rw [pages_length];exact ha16
  have hps := h.cells.p;unfold doWrite at hD;simp only [ha] at hD;by_cases hc : 0 <= (pages s.bs[i].rs).getD a 0 /\ s.cs.getD ((pages s.bs[i].rs).getD a 0).toNat 0 = 1
  · rw [if_pos hc] at hD
    subst hD;rw [if_neg (fun z => by have := z.2;simp at this),if_neg (by omega),if_neg (by omega),if_neg (by rw [ho];decide)] at hP;subst hP
    obtain ⟨g,hg⟩ : ∃ g : Nat,(pages s.bs[i].rs).getD a 0 = (g : Int) := ⟨((pages s.bs[i].rs).getD a 0).toNat,by omega⟩
    rw [hg,Int.toNat_natCast] at hc hos ⊢;have hgc := page_cnt h i hi a ha16 g hg;refine Prod.ext ?_ rfl;have eset : s.bs = s.bs.set i s.bs[i] := (List.set_getElem_self hi).symm
    show s.bs.map (shownP (s.ps.set g o.va)) = _
    have hm := map_others hi s.bs[i] hos;rw [<- eset] at hm;rw [hm]
    congr 1
    show Pv.mk _ _ (shownV _ _ _) _ _ = Pv.mk _ _ _ _ _
    congr 1
    refine shownV_put (fun k hkk => ?_);have hk16 : k < 16 := by omega
    by_cases ek : k = a
    · rw [if_pos ek,ek,valAt_pos hg,getD_put,if_pos ⟨rfl,by omega⟩]
    · rw [if_neg ek]
      by_cases hneg : (pages s.bs[i].rs).getD k 0 < 0
      · rw [valAt_neg hneg,valAt_neg hneg]
      · obtain ⟨r,hr⟩ : ∃ r : Nat,(pages s.bs[i].rs).getD k 0 = (r : Int) := ⟨((pages s.bs[i].rs).getD k 0).toNat,by omega⟩
        rw [valAt_pos hr,valAt_pos hr,getD_put,if_neg];rintro ⟨z,-⟩;subst z;have := page_twice (b := s.bs[i]) a k ha16 hk16 (fun z => ek z.symm) g hg hr
        omega
  · rw [if_neg hc] at hD
    by_cases hfr : firstFree s.cs < s.cs.length
    · rw [if_pos hfr] at hD
      subst hD;rw [if_neg (fun z => by have := z.2;simp at this),if_neg (by omega),if_neg (by omega),if_neg (by rw [ho];decide)] at hP;subst hP;have e1 : tookC s.cs = s.cs.set (firstFree s.cs) 1 := by unfold tookC;rw [if_pos hfr]
      have e2 : tookP s.cs s.ps o.va = s.ps.set (firstFree s.cs) o.va := by unfold tookP;rw [if_pos hfr]
      have e3 : tookAt s.cs = (firstFree s.cs : Int) := by unfold tookAt;rw [if_pos hfr]
      have hz := free_zero s.cs hfr;have hn24 := h.n1;rw [e1,e2,e3] at hos ⊢;generalize firstFree s.cs = f at *;have p1 := set_pages s.bs[i] hbo a (by omega) (f : Int) (by omega);refine Prod.ext ?_ rfl
      show (s.bs.set i _).map _ = _
      rw [map_others hi _ hos]
      congr 1
      show Pv.mk _ _ (shownV _ _ _) _ _ = Pv.mk _ _ _ _ _
      congr 1
      refine shownV_put (fun k hkk => ?_);have hkz : k < (s.bs[i]).sz.toNat := hkk;have hk16 : k < 16 := by omega
      by_cases ek : k = a
      · rw [if_pos ek,ek,valAt_pos (r := f) (by rw [p1.2.1,List.getD_eq_getElem?_getD,List.getElem?_set_self hla];rfl)]
        have e : dropAll (s.cs.set f 1,s.ps.set f o.va) [(pages s.bs[i].rs).getD a 0] = dropOne (s.cs.set f 1,s.ps.set f o.va) ((pages s.bs[i].rs).getD a 0) := rfl;rw [<- e,dropAll_keep _ _ _ f (by rw [List.length_set];exact hfr) ?_]
        · rw [getD_put,if_pos ⟨rfl,by omega⟩]
        · rw [getD_put,if_pos ⟨rfl,hfr⟩,List.count_cons_of_ne,List.count_nil]
          · omega
          · intro z
            have := (page_cnt h i hi a ha16 f z).2
            omega
      · rw [if_neg ek]
        have eg : (pages (mapOf ((pages s.bs[i].rs).set a (f : Int)))).getD k 0 = (pages s.bs[i].rs).getD k 0 := by
          rw [p1.2.1,List.getD_eq_getElem?_getD,List.getD_eq_getElem?_getD,List.getElem?_set_ne (fun z => ek z.symm)]
        by_cases hneg : (pages s.bs[i].rs).getD k 0 < 0
        · rw [valAt_neg hneg,valAt_neg (by rw [eg];exact hneg)]
        · obtain ⟨r,hr⟩ : ∃ r : Nat,(pages s.bs[i].rs).getD k 0 = (r : Int) := ⟨((pages s.bs[i].rs).getD k 0).toNat,by omega⟩
          rw [valAt_pos hr,valAt_pos (by rw [eg];exact hr)]
          have hrf : ¬ f = r := fun z => by
            subst z;have := (page_cnt h i hi k hk16 f hr).2
            omega
          rw [own_keep h i hi a k ha16 hk16 (fun z => ek z.symm) (s.cs.set f 1) (s.ps.set f o.va) _ rfl r hr (by rw [List.length_set]) (by rw [getD_put,if_neg (fun z => hrf z.1)]),getD_put,if_neg (fun z => hrf z.1)]
    · rw [if_neg hfr] at hD
      subst hD;rw [if_pos ⟨hk,rfl⟩] at hP;subst hP
      rfl
theorem shownV_cut {ps ps' : List Int} {rs rs' : List (Int × Int × Int)} {n m : Nat} (hm : m <= 16) (h : ∀ k,k < m -> valAt ps' rs' k = if k < n then valAt ps rs k else 0) : shownV ps' rs' m = (shownV ps rs n ++ List.replicate 16 0).take m := by
  refine List.ext_getElem (by simp [shownV];omega) (fun k h1 h2 => ?_);simp only [shownV,List.length_map,List.length_range] at h1;rw [List.getElem_take,List.getElem_append];simp only [shownV,List.length_map,List.length_range,List.getElem_map,List.getElem_range,List.getElem_replicate];rw [h k h1];by_cases e : k < n
  · rw [if_pos e,dif_pos e]
  · rw [if_neg e,dif_neg e]
theorem as_resize {s : Sf} {o : Oq} (h : ShInv s) (h0 : opOk o = true) (h1 : refused s.bs o = 0) (hk : o.k = 7) (told : Int) : ((doOp s o).1.bs.map (shownP (doOp s o).1.ps),(doOp s o).2) = doPlain (s.bs.map (shownP s.ps)) o told := by
  have hp := (refused_parts h1).1 (by omega);obtain ⟨-,-,-,-,hv,-⟩ := op_parts h0;have hva := hv (by rw [hk];rfl);obtain ⟨i,hi,hf,hn⟩ := find_in s.bs o.nm (by omega);have e : bookAt s.bs (i : Int) = s.bs[i] := by simp [bookAt,List.getD_eq_getElem?_getD,hi]
  have hsz := (shown_parts h i hi).2.1;have hbo := h.oks _ (List.getElem_mem hi);obtain ⟨b1,b2,b3,b4,b5⟩ := book_parts hbo;have ho : kOther o.k = false := by rw [hk];rfl
  have hos := other_same h o i hi hn;generalize hD : doOp s o = D at hos ⊢;unfold doOp at hD;rw [if_neg (by rw [h0];decide),if_neg (by rw [h1];simp),if_neg (by omega),if_neg (by omega),if_neg (by rw [ho];decide)] at hD;generalize hP : doPlain (s.bs.map (shownP s.ps)) o told = E;unfold doPlain at hP;rw [shown_refused,shown_find] at hP;rw [if_neg (by rw [h0];decide),if_neg (by rw [h1];simp),if_neg (by omega),if_neg (by omega),if_neg (by omega),if_neg (by rw [ho];decide)] at hP;rw [hf,Int.toNat_natCast] at hD;rw [hf,Int.toNat_natCast,shown_at _ _ _ hi] at hP;unfold doOne at hP;rw [if_neg (by omega),if_neg (by omega),if_pos hk] at hP;subst hP;unfold doKind at hD;rw [if_neg (by omega),if_neg (by omega),if_pos hk] at hD
  obtain ⟨m,hm⟩ : ∃ m : Nat,o.va.toNat = m := ⟨_,rfl⟩
  have hmv : o.va = (m : Int) := by omega
  rw [hm] at hD ⊢
  have hset : (cutBook s i m).bs = s.bs.set i { s.bs[i] with rs := mapOf (cutAt (pages s.bs[i].rs) (m : Nat)) } := by
    unfold cutBook;rw [bookAt_of s.bs i hi]
  have hbk : bookAt (cutBook s i m).bs i = { s.bs[i] with rs := mapOf (cutAt (pages s.bs[i].rs) (m : Nat)) } := by
    rw [hset,bookAt_of _ i (by simpa using hi),List.getElem_set_self]
  rw [hbk,hset,List.set_set] at hD
  have hcp : (cutBook s i m).ps = (dropAll (s.cs,s.ps) ((pages s.bs[i].rs).drop m)).2 := by
    unfold cutBook;rw [bookAt_of s.bs i hi]
  rw [hcp] at hD;subst hD;have p1 := cut_pages s.bs[i].rs b4 m (by omega);refine Prod.ext ?_ rfl
  show (s.bs.set i _).map _ = _
  rw [map_others hi _ hos]
  congr 1
  show Pv.mk _ _ (shownV _ _ (Int.toNat o.va)) _ _ = Pv.mk _ _ _ _ _
  rw [hm]
  congr 1
  refine shownV_cut (by omega) (fun k hkk => ?_);have hk16 : k < 16 := by omega
  have eg : (pages (mapOf (cutAt (pages s.bs[i].rs) (m : Nat)))).getD k 0 = (pages s.bs[i].rs).getD k 0 := by
    rw [p1.2.1,cutAt_get _ _ _ hk16,if_pos (by omega)]
  by_cases hneg : (pages s.bs[i].rs).getD k 0 < 0
  · rw [valAt_neg hneg,valAt_neg (by rw [eg];exact hneg),ite_self]
  · obtain ⟨r,hr⟩ : ∃ r : Nat,(pages s.bs[i].rs).getD k 0 = (r : Int) := ⟨((pages s.bs[i].rs).getD k 0).toNat,by omega⟩
    have hin : k < (s.bs[i]).sz.toNat := by
      by_cases z : k < (s.bs[i]).sz.toNat
      · exact z
      · have := ends_to s.bs[i].rs (s.bs[i]).sz b4 b5 k hk16 (by omega)
        omega
    rw [if_pos hin,valAt_pos hr,valAt_pos (by rw [eg];exact hr)];obtain ⟨g1,g2,g3⟩ := page_cnt h i hi k hk16 r hr;refine dropAll_keep _ s.cs s.ps r g1 ?_;have hc := cutAt_count (pages s.bs[i].rs) (pages_length _) m (by omega) r;have hmem : (r : Int) ∈ cutAt (pages s.bs[i].rs) (m : Nat) := (mem_getD _ (cutAt_length _ _) _).2 ⟨k,hk16,by rw [<- p1.2.1,eg,hr]⟩;have := List.count_pos_iff.2 hmem;unfold Pb.cnt at g3
    omega
theorem as_plain {s : Sf} (h : ShInv s) (o : Oq) : ((doOp s o).1.bs.map (shownP (doOp s o).1.ps),(doOp s o).2) = doPlain (s.bs.map (shownP s.ps)) o (doOp s o).2.1 := by
  cases h0 : opOk o
  · exact as_refused (Or.inl h0) _
  · by_cases h1 : refused s.bs o = 0
    · have hb := opOk_bd o h0
      cases ho : kOther o.k
      · have : o.k = 1 \/ o.k = 2 \/ o.k = 3 \/ o.k = 6 \/ o.k = 7 \/ o.k = 8 \/ o.k = 9 := by
          have h4 : o.k ≠ 4 := fun z => by rw [z] at ho;exact absurd ho (by decide)
          have h5 : o.k ≠ 5 := fun z => by rw [z] at ho;exact absurd ho (by decide)
          omega
        rcases this with q | q | q | q | q | q | q
        · exact as_make h0 h1 q _
        · exact as_write h h0 h1 q
        · exact as_trim h h0 h1 q _
        · exact as_delete h h0 h1 q _
        · exact as_resize h h0 h1 q _
        · exact as_attach h0 h1 q _
        · exact as_read h h0 h1 q _
      · exact as_other h0 h1 ho _
    · exact as_refused (Or.inr h1) _
theorem plains_ok {l : List Pv} (h : plainsOk l = true) : l.length <= 6 /\ ∀ p ∈ l,p.ok = true := by
  simp only [plainsOk,Bool.and_eq_true,decide_eq_true_eq,List.all_eq_true] at h;exact ⟨h.1.1,h.1.2⟩
theorem pv_parts {p : Pv} (h : p.ok = true) : (1 <= p.sz /\ p.sz <= 16) /\ (0 <= p.ep /\ p.ep <= 1000) /\ (p.vs.length : Int) = p.sz := by
  simp only [Pv.ok,plainOk,Bool.and_eq_true,decide_eq_true_eq] at h;exact ⟨h.1.1.2,h.1.2,h.2⟩
theorem foundV {l : List Pv} {o : Oq} (hok : plainsOk l = true) (href : refused (l.map Pv.pb) o = 0) (hk : o.k ≠ 1) : ∃ (i : Nat) (hi : i < l.length),findP (l.map Pv.pb) o.nm = i /\ l[i].ok = true /\ (kAt o.k = true -> o.at_ < l[i].sz) /\ (o.k = 8 -> l[i].ep ≠ 1000) := by
  obtain ⟨a1,-,-,a4,a5⟩ := refused_parts href;obtain ⟨i,hib,hf,-⟩ := find_in (l.map Pv.pb) o.nm (by have := a1 hk;omega);have hi : i < l.length := by rw [List.length_map] at hib;exact hib
  have hb : bookAt (l.map Pv.pb) (findP (l.map Pv.pb) o.nm) = l[i].pb := by
    rw [hf,bookAt_of (l.map Pv.pb) i hib,List.getElem_map]
  refine ⟨i,hi,hf,(plains_ok hok).2 _ (List.getElem_mem hi),fun q => ?_,fun q => ?_⟩
  · have := a4 hk q
    rw [hb] at this;exact this
  · have := a5 q
    rw [hb] at this;exact this
theorem doPlain_bad {l : List Pv} {o : Oq} (told : Int) (h : opOk o = false) : doPlain l o told = (l,(1,0)) := by rw [doPlain,if_pos h]
theorem doPlain_refd {l : List Pv} {o : Oq} (told : Int) (h : opOk o = true) (hr : refused (l.map Pv.pb) o ≠ 0) : doPlain l o told = (l,(refused (l.map Pv.pb) o,0)) := by
  rw [doPlain,if_neg (by rw [h];decide),if_pos hr]
theorem doPlain_full {l : List Pv} {o : Oq} (h : opOk o = true) (hr : refused (l.map Pv.pb) o = 0) (hk : o.k = 2) : doPlain l o 9 = (l,(9,0)) := by
  rw [doPlain,if_neg (by rw [h];decide),if_neg (by rw [hr];decide),if_pos ⟨hk,rfl⟩]
theorem doPlain_one {l : List Pv} {o : Oq} {told : Int} {i : Nat} (hi : i < l.length) (h : opOk o = true) (hr : refused (l.map Pv.pb) o = 0) (hf : ¬ (o.k = 2 /\ told = 9)) (hk : o.k ≠ 1 /\ o.k ≠ 6 /\ kOther o.k = false) (hfp : findP (l.map Pv.pb) o.nm = i) : doPlain l o told = doOne l o i l[i] := by
  rw [doPlain,if_neg (by rw [h];decide),if_neg (by rw [hr];decide),if_neg hf,if_neg hk.1,if_neg hk.2.1,if_neg (by rw [hk.2.2];decide),hfp,Int.toNat_natCast]
  congr 1
  simp [plainAt,List.getD_eq_getElem?_getD,hi]
theorem pv_ok_by {p : Pv} (h1 : Nums.nameB p.nm.data.toList = true) (h2 : 1 <= p.sz /\ p.sz <= 16) (h3 : 0 <= p.ep /\ p.ep <= 1000) (h4 : (p.vs.length : Int) = p.sz) (h5 : valuesB p.vs = true) : p.ok = true := by
  simp only [Pv.ok,plainOk,Bool.and_eq_true,decide_eq_true_eq];exact ⟨⟨⟨⟨h5,h1⟩,h2⟩,h3⟩,h4⟩
theorem pv_all {p : Pv} (h : p.ok = true) : Nums.nameB p.nm.data.toList = true /\ (1 <= p.sz /\ p.sz <= 16) /\ (0 <= p.ep /\ p.ep <= 1000) /\ (p.vs.length : Int) = p.sz /\ valuesB p.vs = true := by
  simp only [Pv.ok,plainOk,Bool.and_eq_true,decide_eq_true_eq] at h;exact ⟨h.1.1.1.2,h.1.1.2,h.1.2,h.2,h.1.1.1.1⟩
theorem plains_of {l : List Pv} (h1 : l.length <= 6) (h2 : ∀ p ∈ l,p.ok = true) (h3 : (l.map Pv.nm).Pairwise (fun a b => ltB a b = true)) : plainsOk l = true := by
  simp only [plainsOk,Bool.and_eq_true,decide_eq_true_eq,List.all_eq_true];exact ⟨⟨h1,h2⟩,(sorted_iff _).2 h3⟩
theorem plains_srt {l : List Pv} (h : plainsOk l = true) : (l.map Pv.nm).Pairwise (fun a b => ltB a b = true) := by
  simp only [plainsOk,Bool.and_eq_true] at h;exact (sorted_iff _).1 h.2
theorem pb_names (l : List Pv) : (l.map Pv.pb).map Pb.nm = l.map Pv.nm := by rw [List.map_map];rfl
theorem put_len (l : List Pv) (p : Pv) : (putV l p).length = l.length + 1 := by
  unfold putV;simp only [List.length_append,List.length_take,List.length_drop,List.length_cons,List.length_nil];have := insertAt_le (l.map Pv.pb) p.nm;rw [List.length_map] at this
  omega
theorem put_mem {l : List Pv} {p x : Pv} (h : x ∈ putV l p) : x ∈ l \/ x = p := by
  simp only [putV,List.mem_append,List.mem_singleton] at h;rcases h with (h | h) | h
  · exact .inl (List.mem_of_mem_take h)
  · exact .inr h
  · exact .inl (List.mem_of_mem_drop h)
theorem put_ok {l : List Pv} {p : Pv} (h : plainsOk l = true) (hp : p.ok = true) (hl : l.length ≠ 6) (hf : findP (l.map Pv.pb) p.nm < 0) : plainsOk (putV l p) = true := by
  have h6 := (plains_ok h).1;refine plains_of (by rw [put_len];omega) (fun x hx => ?_) ?_
  · rcases put_mem hx with hx | rfl
    · exact (plains_ok h).2 x hx
    · exact hp
  · have hs := plains_srt h
    rw [<- pb_names] at hs;have h2 := insert_sorted (l.map Pv.pb) p.pb hs (fun x hx => find_not (l.map Pv.pb) p.nm hf x hx)
    have e : (putV l p).map Pv.nm = (insertP (l.map Pv.pb) p.pb).map Pb.nm := by
      unfold putV insertP;simp only [List.map_append,List.map_take,List.map_drop,List.map_map]
      rfl
    rw [e];exact h2
theorem set_ok {l : List Pv} {i : Nat} {y : Pv} (h : plainsOk l = true) (hi : i < l.length) (hy : y.ok = true) (hn : y.nm = l[i].nm) : plainsOk (l.set i y) = true := by
  refine plains_of (by rw [List.length_set];exact (plains_ok h).1) (fun x hx => ?_) ?_
  · rcases List.mem_or_eq_of_mem_set hx with hx | rfl
    · exact (plains_ok h).2 x hx
    · exact hy
  · have e : (l.set i y).map Pv.nm = l.map Pv.nm := by
      rw [List.map_set,hn]
      apply List.ext_getElem
      · simp
      · intro n h1 h2
        by_cases e : i = n
        · subst e;rw [List.getElem_set_self,List.getElem_map]
        · rw [List.getElem_set_ne e]
    rw [e];exact plains_srt h
theorem values_set {vs : List Int} (h : valuesB vs = true) (i : Nat) (z : Int) (hz : 0 <= z /\ z <= 999) : valuesB (vs.set i z) = true := by
  unfold valuesB at h ⊢;rw [List.all_eq_true] at h ⊢;intro x hx;rcases List.mem_or_eq_of_mem_set hx with hx | rfl
  · exact h x hx
  · simp [hz.1,hz.2]
theorem values_zeros (n : Nat) : valuesB (List.replicate n 0) = true := by
  unfold valuesB;rw [List.all_eq_true];intro x hx;obtain ⟨-,rfl⟩ := List.mem_replicate.1 hx
  decide
theorem values_take {vs : List Int} (h : valuesB vs = true) (n k : Nat) : valuesB ((vs ++ List.replicate k 0).take n) = true := by
  unfold valuesB at h ⊢;rw [List.all_eq_true] at h ⊢;intro x hx;rcases List.mem_append.1 (List.mem_of_mem_take hx) with hx | hx
  · exact h x hx
  · obtain ⟨-,rfl⟩ := List.mem_replicate.1 hx
    decide
theorem do_plains {l : List Pv} {o : Oq} {told : Int} (h : plainsOk l = true) : plainsOk (doPlain l o told).1 = true := by
  unfold doPlain
  split
  · exact h
  rename_i hb
  have hok : opOk o = true := by simpa using hb
  split
  · exact h
  rename_i hr0
  have href : refused (l.map Pv.pb) o = 0 := Classical.not_not.1 hr0
  split
  · exact h
  rename_i hfull
  have hop := op_parts hok;have hpt := refused_parts href
  split
  · rename_i hk
    have hv := hop.2.2.2.2.1 (by rw [hk];decide);have h2 := hpt.2.1 hk;rw [List.length_map] at h2;refine put_ok h (pv_ok_by hop.1 hv (by show (0 : Int) <= 0 /\ (0 : Int) <= 1000;omega) ?_ (values_zeros _)) h2.2 h2.1
    show ((List.replicate o.va.toNat (0 : Int)).length : Int) = o.va
    rw [List.length_replicate]
    omega
  rename_i hk1
  obtain ⟨i,hi,hfp,hpk,hpa,hpe⟩ := foundV h href hk1;have hpl : plainAt l (findP (l.map Pv.pb) o.nm).toNat = l[i] := by rw [hfp,Int.toNat_natCast];simp [plainAt,List.getD_eq_getElem?_getD,hi]
  have hpp := pv_all hpk
  split
  · rw [hfp,Int.toNat_natCast]
    refine plains_of ?_ (fun x hx => ?_) ?_
    · have := (plains_ok h).1
      rw [List.length_append,List.length_take,List.length_drop]
      omega
    · rcases List.mem_append.1 hx with hx | hx
      · exact (plains_ok h).2 x (List.mem_of_mem_take hx)
      · exact (plains_ok h).2 x (List.mem_of_mem_drop hx)
    · refine List.Pairwise.sublist ?_ (plains_srt h)
      rw [<- List.eraseIdx_eq_take_drop_succ];exact (List.eraseIdx_sublist _ _).map _
  split
  · rename_i hko
    have h2 := hpt.2.2.1 hko;have h3 := h2.2 hk1;rw [List.length_map] at h3;rw [hpl];exact put_ok h (pv_ok_by (hop.2.2.1 hko) hpp.2.1 (by show (0 : Int) <= 0 /\ (0 : Int) <= 1000;omega) hpp.2.2.2.1 hpp.2.2.2.2) h3 h2.1
  · rename_i hk6 hko
    rw [hpl,hfp,Int.toNat_natCast];have hk9 := hop.2.1
    have hk : o.k = 2 \/ o.k = 3 \/ o.k = 7 \/ o.k = 8 \/ o.k = 9 := by
      have h9 : o.k = 1 \/ o.k = 2 \/ o.k = 3 \/ o.k = 4 \/ o.k = 5 \/ o.k = 6 \/ o.k = 7 \/ o.k = 8 \/ o.k = 9 := by omega
      rcases h9 with q | q | q | q | q | q | q | q | q
      · exact absurd q hk1
      · exact .inl q
      · exact .inr (.inl q)
      · rw [q] at hko;exact absurd rfl hko
      · rw [q] at hko;exact absurd rfl hko
      · exact absurd q hk6
      · exact .inr (.inr (.inl q))
      · exact .inr (.inr (.inr (.inl q)))
      · exact .inr (.inr (.inr (.inr q)))
    unfold doOne
    split
    · exact h
    split
    · rename_i hk8
      have h1 := hpe hk8;refine set_ok h hi (pv_ok_by hpp.1 hpp.2.1 ?_ hpp.2.2.2.1 hpp.2.2.2.2) rfl
      show 0 <= l[i].ep + 1 /\ l[i].ep + 1 <= 1000
      have := hpp.2.2.1
      omega
    split
    · rename_i hk7
      have hv := hop.2.2.2.2.1 (by rw [hk7];decide);refine set_ok h hi (pv_ok_by hpp.1 hv hpp.2.2.1 ?_ (values_take hpp.2.2.2.2 _ _)) rfl
      show (((l[i].vs ++ List.replicate 16 0).take o.va.toNat).length : Int) = o.va
      rw [List.length_take,List.length_append,List.length_replicate]
      omega
    split
    · refine set_ok h hi (pv_ok_by hpp.1 hpp.2.1 hpp.2.2.1 ?_ (values_set hpp.2.2.2.2 _ _ (by omega))) rfl
      show ((l[i].vs.set _ _).length : Int) = l[i].sz
      rw [List.length_set];exact hpp.2.2.2.1
    · rename_i e9 e8 e7 e3
      have hk2 : o.k = 2 := by omega
      refine set_ok h hi (pv_ok_by hpp.1 hpp.2.1 hpp.2.2.1 ?_ (values_set hpp.2.2.2.2 _ _ (hop.2.2.2.2.2 hk2))) rfl
      show ((l[i].vs.set _ _).length : Int) = l[i].sz
      rw [List.length_set];exact hpp.2.2.2.1
theorem did_plains (l : List Pv) (o : Oq) (told : Int) : plainsOk (didPlain l o told).1 = true := by
  unfold didPlain
  split
  · rename_i h
    exact do_plains h
  · rfl
end Go.Proofs.YtcefcglonooelaaGreatDoor
