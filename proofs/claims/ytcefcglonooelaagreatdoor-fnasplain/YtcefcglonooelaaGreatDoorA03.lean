import Derived.WalkKit
import Derived.Test.YtcefcglonooelaaGreatDoorA02
namespace Go.Proofs.YtcefcglonooelaaGreatDoor
set_option linter.unusedVariables false
set_option maxRecDepth 100000
def I64 (x : Int) : Prop := -9223372036854775808 <= x /\ x <= 9223372036854775807
def FitRuns (rs : List (Int × Int × Int)) : Prop := ∀ r ∈ rs,I64 r.1 /\ I64 r.2.1 /\ I64 r.2.2
def runOk (e : Int) (pv : Option (Int × Int × Int)) (r : Int × Int × Int) : Bool :=
  decide (e <= r.1) && (decide (1 <= r.2.1) && decide (r.2.1 <= 16)) && decide (r.1 <= 16 - r.2.1) && (decide (0 <= r.2.2) && decide (r.2.2 <= 24 - r.2.1)) &&
    !(match pv with | none => false | some q => decide (r.1 = e) && decide (r.2.2 = q.2.2 + q.2.1))
def okFrom : Int -> Option (Int × Int × Int) -> List (Int × Int × Int) -> Bool
  | _,_,[] => true
  | e,pv,r :: rs => runOk e pv r && okFrom (r.1 + r.2.1) (some r) rs
def mapOk (rs : List (Int × Int × Int)) : Bool := okFrom 0 none rs && decide (rs.length <= 16)
theorem runOk_iff (e : Int) (pv : Option (Int × Int × Int)) (f c p : Int) : runOk e pv (f,c,p) = true ↔ (e <= f /\ 1 <= c /\ c <= 16 /\ f <= 16 - c /\ 0 <= p /\ p <= 24 - c /\ ∀ q,pv = some q -> ¬ (f = e /\ p = q.2.2 + q.2.1)) := by
  cases pv with
  | none => simp [runOk];omega
  | some q =>
    simp only [runOk,Bool.and_eq_true,decide_eq_true_eq,Bool.not_eq_true',Bool.and_eq_false_iff,decide_eq_false_iff_not,Option.some.injEq]
    constructor
    · rintro ⟨⟨⟨⟨h1,h2⟩,h3⟩,h4⟩,h5⟩
      refine ⟨h1,h2.1,h2.2,h3,h4.1,h4.2,?_⟩;rintro _ rfl ⟨h6,h7⟩;rcases h5 with h5 | h5
      · exact h5 h6
      · exact h5 h7
    · rintro ⟨h1,h2,h3,h4,h5,h6,h7⟩
      refine ⟨⟨⟨⟨h1,h2,h3⟩,h4⟩,h5,h6⟩,?_⟩;by_cases h8 : f = e
      · exact .inr (fun h9 => h7 q rfl ⟨h8,h9⟩)
      · exact .inl h8
def lay (l : List Int) (f : Nat) (p : Int) : Nat -> List Int
  | 0 => l
  | n + 1 => (lay l f p n).set (f + n) (p + n)
def layRun (l : List Int) (r : Int × Int × Int) : List Int := lay l r.1.toNat r.2.2 r.2.1.toNat
def none16 : List Int := List.replicate 16 (-1)
def pages (rs : List (Int × Int × Int)) : List Int := rs.foldl layRun none16
theorem lay_length (l : List Int) (f : Nat) (p : Int) (n : Nat) : (lay l f p n).length = l.length := by
  induction n with
  | zero => rfl
  | succ n ih => rw [lay,List.length_set,ih]
theorem layRun_length (l : List Int) (r : Int × Int × Int) : (layRun l r).length = l.length := lay_length _ _ _ _
theorem foldl_length (rs : List (Int × Int × Int)) (l : List Int) : (rs.foldl layRun l).length = l.length := by
  induction rs generalizing l with
  | nil => rfl
  | cons r rs ih => rw [List.foldl_cons,ih,layRun_length]
theorem pages_length (rs : List (Int × Int × Int)) : (pages rs).length = 16 := by rw [pages,foldl_length];rfl
theorem lay_get (l : List Int) (f : Nat) (p : Int) (n j : Nat) (h : f + n <= l.length) : (lay l f p n).getD j 0 = if f <= j /\ j < f + n then p + ((j - f : Nat) : Int) else l.getD j 0 := by
  induction n with
  | zero => rw [lay,if_neg (by omega)]
  | succ n ih =>
    have hl := lay_length l f p n;rw [lay,List.getD_eq_getElem?_getD,List.getElem?_set,hl];by_cases e : f + n = j
    · rw [if_pos e,if_pos (by omega),if_pos (by omega)]
      show p + (n : Int) = _
      rw [show j - f = n by omega]
    · rw [if_neg e,<- List.getD_eq_getElem?_getD,ih (by omega)]
      by_cases q : f <= j /\ j < f + n
      · rw [if_pos q,if_pos (by omega)]
      · rw [if_neg q,if_neg (by omega)]
def grow (k : Nat) (v : Int) (acc : List (Int × Int × Int)) : List (Int × Int × Int) :=
  if v < 0 then acc else
  match acc.getLast? with
  | none => acc ++ [((k : Int),1,v)]
  | some r => if r.1 + r.2.1 = k /\ r.2.2 + r.2.1 = v then acc.dropLast ++ [(r.1,r.2.1 + 1,r.2.2)] else acc ++ [((k : Int),1,v)]
def upto (l : List Int) : Nat -> List (Int × Int × Int)
  | 0 => []
  | n + 1 => grow n (l.getD n 0) (upto l n)
def mapOf (l : List Int) : List (Int × Int × Int) := upto l l.length
theorem okFrom_append (e : Int) (pv : Option (Int × Int × Int)) (rs : List (Int × Int × Int)) (r : Int × Int × Int) :
    okFrom e pv (rs ++ [r]) = (okFrom e pv rs && runOk (match rs.getLast? with | none => e | some q => q.1 + q.2.1) (match rs.getLast? with | none => pv | some q => some q) r) := by
  induction rs generalizing e pv with
  | nil => simp [okFrom]
  | cons q rs ih =>
    rw [List.cons_append,okFrom,ih,okFrom,Bool.and_assoc]
    cases rs with
    | nil => simp
    | cons s t =>
      rw [List.getLast?_cons_cons]
      cases h : (s :: t).getLast? with
      | none => simp at h
      | some z => rfl
structure UptoOk (l : List Int) (n : Nat) (rs : List (Int × Int × Int)) : Prop where
  ok : okFrom 0 none rs = true
  endAt : ∀ r,rs.getLast? = some r -> r.1 + r.2.1 <= n /\ 0 <= r.1 /\ 1 <= r.2.1 /\ 0 <= r.2.2
  shows : ∀ j,(pages rs).getD j 0 = if j < n then l.getD j 0 else none16.getD j 0
  few : rs.length <= n
theorem pages_snoc (rs : List (Int × Int × Int)) (r : Int × Int × Int) : pages (rs ++ [r]) = layRun (pages rs) r := by rw [pages,List.foldl_append];rfl
theorem getD_wr1 (l : List Int) (k : Nat) (v : Int) (j : Nat) (h : k < l.length) : (layRun l ((k : Int),1,v)).getD j 0 = if j = k then v else l.getD j 0 := by
  show (lay l (k : Int).toNat v (1 : Int).toNat).getD j 0 = _
  rw [Int.toNat_natCast,show (1 : Int).toNat = 1 from rfl,lay_get l k v 1 j (by omega)];by_cases e : j = k
  · rw [if_pos (by omega),if_pos e,show j - k = 0 by omega];simp
  · rw [if_neg (by omega),if_neg e]
theorem upto_ok (l : List Int) (hl : l.length = 16) (hv : ∀ j,j < 16 -> -1 <= l.getD j 0 /\ l.getD j 0 <= 23) (n : Nat) (hn : n <= 16) : UptoOk l n (upto l n) := by
  induction n with
  | zero => exact ⟨rfl,fun r h => by simp [upto] at h,fun j => by rw [if_neg (by omega)];rfl,Nat.le_refl _⟩
  | succ n ih =>
    have h := ih (by omega);have hvn := hv n (by omega);rw [upto];generalize upto l n = rs at h;have hpl := pages_length rs
    have hat : (pages rs).getD n 0 = -1 := by
      rw [h.shows n,if_neg (by omega)];have h16 : n = 0 \/ n = 1 \/ n = 2 \/ n = 3 \/ n = 4 \/ n = 5 \/ n = 6 \/ n = 7 \/ n = 8 \/ n = 9 \/ n = 10 \/ n = 11 \/ n = 12 \/ n = 13 \/ n = 14 \/ n = 15 := by omega
      rcases h16 with rfl | rfl | rfl | rfl | rfl | rfl | rfl | rfl | rfl | rfl | rfl | rfl | rfl | rfl | rfl | rfl <;> rfl
    have shows' : ∀ rs' : List (Int × Int × Int),(∀ j,(pages rs').getD j 0 = if j = n then l.getD n 0 else (pages rs).getD j 0) -> ∀ j,(pages rs').getD j 0 = if j < n + 1 then l.getD j 0 else none16.getD j 0 := fun rs' hj j => by
      rw [hj j,h.shows j];by_cases e : j = n
      · rw [if_pos e,if_pos (by omega),e]
      · rw [if_neg e]
        by_cases q : j < n
        · rw [if_pos q,if_pos (by omega)]
        · rw [if_neg q,if_neg (by omega)]
    unfold grow;by_cases hneg : l.getD n 0 < 0
    · rw [if_pos hneg]
      refine ⟨h.ok,fun r hr => by have := h.endAt r hr;omega,shows' rs (fun j => ?_),by have := h.few;omega⟩;by_cases e : j = n
      · rw [if_pos e,e,hat];omega
      · rw [if_neg e]
    · rw [if_neg hneg]
      have new : (∀ r,rs.getLast? = some r -> ¬ (r.1 + r.2.1 = (n : Int) /\ r.2.2 + r.2.1 = l.getD n 0)) -> UptoOk l (n + 1) (rs ++ [((n : Int),1,l.getD n 0)]) := fun hno => by
        refine ⟨?_,fun r hr => ?_,shows' _ (fun j => ?_),by have := h.few;simp;omega⟩
        · rw [okFrom_append,h.ok,Bool.true_and,runOk_iff]
          cases hg : rs.getLast? with
          | none => exact ⟨by simp,by omega,by omega,by omega,by omega,by omega,fun q hq => by cases hq⟩
          | some r =>
            have he := h.endAt r hg;refine ⟨by simp;omega,by omega,by omega,by omega,by omega,by omega,fun q hq hh => ?_⟩;simp only [Option.some.injEq] at hq;subst hq;exact hno r hg ⟨hh.1.symm,hh.2.symm⟩
        · rw [List.getLast?_concat,Option.some.injEq] at hr
          subst hr;simp only
          omega
        · rw [pages_snoc,getD_wr1 _ _ _ _ (by omega)]
      cases hg : rs.getLast? with
      | none => exact new (fun r hr => by rw [hg] at hr;cases hr)
      | some r =>
        simp only;by_cases hc : r.1 + r.2.1 = (n : Int) /\ r.2.2 + r.2.1 = l.getD n 0
        · rw [if_pos hc]
          have he := h.endAt r hg
          obtain ⟨pre,rfl⟩ : ∃ pre,rs = pre ++ [r] := ⟨rs.dropLast,by
            have hne : rs ≠ [] := fun e => by rw [e] at hg;cases hg
            rw [List.getLast?_eq_some_getLast hne] at hg;have := List.dropLast_concat_getLast hne;simp only [Option.some.injEq] at hg;rw [hg] at this
            exact this.symm⟩
          rw [List.dropLast_concat];obtain ⟨f,c,p⟩ := r;simp only at he hc ⊢;have hok := h.ok;rw [okFrom_append,Bool.and_eq_true,runOk_iff] at hok;refine ⟨?_,fun s hs => ?_,shows' _ (fun j => ?_),by have := h.few;simp at this ⊢;omega⟩
          · rw [okFrom_append,Bool.and_eq_true,runOk_iff]
            exact ⟨hok.1,hok.2.1,by omega,by omega,by omega,by omega,by omega,hok.2.2.2.2.2.2.2⟩
          · rw [List.getLast?_concat,Option.some.injEq] at hs
            subst hs;simp only
            omega
          · rw [pages_snoc,pages_snoc]
            have hc1 : (c + 1).toNat = c.toNat + 1 := by omega
            have hpl2 := pages_length pre
            show (lay (pages pre) f.toNat p (c + 1).toNat).getD j 0 = if j = n then _ else (lay (pages pre) f.toNat p c.toNat).getD j 0
            rw [hc1,lay_get _ _ _ _ _ (by omega),lay_get _ _ _ _ _ (by omega)];by_cases e : j = n
            · rw [if_pos e,if_pos (by omega)]
              omega
            · rw [if_neg e]
              by_cases q : f.toNat <= j /\ j < f.toNat + c.toNat
              · rw [if_pos q,if_pos (by omega)]
              · rw [if_neg q,if_neg (by omega)]
        · rw [if_neg hc]
          exact new (fun s hs => by rw [hg] at hs;simp only [Option.some.injEq] at hs;subst hs;exact hc)
theorem ext16 (a b : List Int) (ha : a.length = 16) (hb : b.length = 16) (h : ∀ j,j < 16 -> a.getD j 0 = b.getD j 0) : a = b := by
  apply List.ext_getElem (by omega)
  intro j h1 h2;have := h j (by omega);rw [List.getD_eq_getElem?_getD,List.getD_eq_getElem?_getD,List.getElem?_eq_getElem h1,List.getElem?_eq_getElem h2] at this;exact this
theorem mapOf_ok (l : List Int) (hl : l.length = 16) (hv : ∀ j,j < 16 -> -1 <= l.getD j 0 /\ l.getD j 0 <= 23) : mapOk (mapOf l) = true /\ pages (mapOf l) = l := by
  have h := upto_ok l hl hv 16 (Nat.le_refl _);rw [mapOf,hl];refine ⟨?_,ext16 _ _ (pages_length _) hl fun j hj => by rw [h.shows j,if_pos hj]⟩;rw [mapOk,h.ok,Bool.true_and,decide_eq_true_iff];exact h.few
theorem pages_fold_range (rs : List (Int × Int × Int)) (e : Int) (pv : Option (Int × Int × Int)) (h : okFrom e pv rs = true) (l : List Int) (hl : l.length = 16) (hv : ∀ j,j < 16 -> -1 <= l.getD j 0 /\ l.getD j 0 <= 23) (he : 0 <= e) : ∀ j,j < 16 -> -1 <= (rs.foldl layRun l).getD j 0 /\ (rs.foldl layRun l).getD j 0 <= 23 := by
  induction rs generalizing e pv l with
  | nil => exact hv
  | cons r rs ih =>
    obtain ⟨f,c,p⟩ := r;rw [okFrom,Bool.and_eq_true,runOk_iff] at h;rw [List.foldl_cons];refine ih _ _ h.2 _ (by rw [layRun_length];exact hl) (fun j hj => ?_) (by simp only;omega)
    show -1 <= (lay l f.toNat p c.toNat).getD j 0 /\ (lay l f.toNat p c.toNat).getD j 0 <= 23
    rw [lay_get _ _ _ _ _ (by omega)];by_cases q : f.toNat <= j /\ j < f.toNat + c.toNat
    · rw [if_pos q];omega
    · rw [if_neg q];exact hv j hj
theorem none16_at (j : Nat) (hj : j < 16) : none16.getD j 0 = -1 := by
  have h16 : j = 0 \/ j = 1 \/ j = 2 \/ j = 3 \/ j = 4 \/ j = 5 \/ j = 6 \/ j = 7 \/ j = 8 \/ j = 9 \/ j = 10 \/ j = 11 \/ j = 12 \/ j = 13 \/ j = 14 \/ j = 15 := by omega
  rcases h16 with rfl | rfl | rfl | rfl | rfl | rfl | rfl | rfl | rfl | rfl | rfl | rfl | rfl | rfl | rfl | rfl <;> rfl
theorem mapOk_from {rs : List (Int × Int × Int)} (h : mapOk rs = true) : okFrom 0 none rs = true := by rw [mapOk,Bool.and_eq_true] at h;exact h.1
theorem pages_range (rs : List (Int × Int × Int)) (h : mapOk rs = true) (j : Nat) (hj : j < 16) : -1 <= (pages rs).getD j 0 /\ (pages rs).getD j 0 <= 23 :=
  pages_fold_range rs 0 none (mapOk_from h) none16 rfl (fun j hj => by rw [none16_at j hj];omega) (by omega) j hj
theorem upto_skip (l : List Int) (k n : Nat) (h : ∀ j,k <= j -> j < k + n -> l.getD j 0 < 0) : upto l (k + n) = upto l k := by
  induction n with
  | zero => rfl
  | succ n ih =>
    rw [<- Nat.add_assoc,upto,ih (fun j h1 h2 => h j h1 (by omega))];unfold grow;rw [if_pos (h (k + n) (by omega) (by omega))]
theorem upto_grow (l : List Int) (k n : Nat) (pre : List (Int × Int × Int)) (f c p : Int) (hp : 0 <= p) (hc : 0 <= c) (hk : upto l k = pre ++ [(f,c,p)]) (he : f + c = k) (h : ∀ i,i < n -> l.getD (k + i) 0 = p + c + i) : upto l (k + n) = pre ++ [(f,c + n,p)] := by
  induction n with
  | zero => simpa using hk
  | succ n ih =>
    rw [<- Nat.add_assoc,upto,ih (fun i hi => h i (by omega)),h n (by omega)];unfold grow;rw [if_neg (by omega),List.getLast?_concat];simp only;rw [if_pos ⟨by omega,by omega⟩,List.dropLast_concat,show c + (n : Int) + 1 = c + ((n + 1 : Nat) : Int) by omega]
theorem upto_runs (l : List Int) (rs : List (Int × Int × Int)) (e : Nat) (acc : List (Int × Int × Int)) (hacc : upto l e = acc) (h : okFrom (e : Int) acc.getLast? rs = true) (hlast : ∀ r,acc.getLast? = some r -> r.1 + r.2.1 = (e : Int)) (he : e <= 16)
    (hin : ∀ r ∈ rs,∀ i : Nat,(i : Int) < r.2.1 -> l.getD (r.1.toNat + i) 0 = r.2.2 + i) (hout : ∀ j,e <= j -> j < 16 -> (∀ r ∈ rs,¬ (r.1 <= (j : Int) /\ (j : Int) < r.1 + r.2.1)) -> l.getD j 0 < 0) : upto l 16 = acc ++ rs := by
  induction rs generalizing e acc with
  | nil =>
    have := upto_skip l e (16 - e) (fun j h1 h2 => hout j h1 (by omega) (fun r hr => by cases hr));rw [show e + (16 - e) = 16 by omega] at this;rw [this,hacc,List.append_nil]
  | cons r rs ih =>
    obtain ⟨f,c,p⟩ := r;rw [okFrom,Bool.and_eq_true,runOk_iff] at h;obtain ⟨⟨h1,h2,h3,h4,h5,h6,h7⟩,h8⟩ := h
    have hlater : ∀ (rs : List (Int × Int × Int)) (e : Int) (pv : Option (Int × Int × Int)),okFrom e pv rs = true -> ∀ s ∈ rs,e <= s.1 := by
      intro rs
      induction rs with
      | nil => intro e pv _ s hs;cases hs
      | cons q qs ih2 =>
        intro e pv hq s hs;obtain ⟨qf,qc,qp⟩ := q;rw [okFrom,Bool.and_eq_true,runOk_iff] at hq;rcases List.mem_cons.1 hs with rfl | hs
        · exact hq.1.1
        · have := ih2 _ _ hq.2 s hs
          simp only at this
          omega
    have hl2 := hlater rs _ _ h8;simp only at h8 hl2;obtain ⟨F,rfl⟩ := Int.eq_ofNat_of_zero_le (show 0 <= f by omega);obtain ⟨C,rfl⟩ := Int.eq_ofNat_of_zero_le (show 0 <= c by omega);have hF : e <= F := by omega
    have s1 : upto l F = acc := by
      have := upto_skip l e (F - e) (fun j q1 q2 => hout j q1 (by omega) (fun r hr => by
        rcases List.mem_cons.1 hr with rfl | hr
        · simp only;omega
        · have := hl2 r hr;omega))
      rw [show e + (F - e) = F by omega] at this;rw [this,hacc]
    have s2 : upto l (F + 1) = acc ++ [((F : Int),1,p)] := by
      have hv : l.getD F 0 = p := by
        have := hin ((F : Int),(C : Int),p) (List.mem_cons_self ..) 0 (by simp only;omega)
        simpa using this
      rw [upto,s1,hv];unfold grow;rw [if_neg (by omega)]
      cases hg : acc.getLast? with
      | none => rfl
      | some q =>
        simp only;rw [if_neg];rintro ⟨q1,q2⟩;have hq := hlast q hg;exact h7 q hg ⟨by omega,by omega⟩
    have s3 := upto_grow l (F + 1) (C - 1) acc (F : Int) 1 p h5 (by omega) s2 (by omega) (fun i hi => by
      have := hin ((F : Int),(C : Int),p) (List.mem_cons_self ..) (1 + i) (by simp only;omega);simp only [Int.toNat_natCast] at this;rw [Nat.add_assoc,this]
      omega)
    rw [show F + 1 + (C - 1) = F + C by omega,show (1 : Int) + ((C - 1 : Nat) : Int) = (C : Int) by omega] at s3
    have := ih (F + C) (acc ++ [((F : Int),(C : Int),p)]) s3 (by rw [List.getLast?_concat];rw [show ((F + C : Nat) : Int) = (F : Int) + (C : Int) by omega];exact h8) (fun r hr => by
      rw [List.getLast?_concat,Option.some.injEq] at hr;subst hr;simp only
      omega) (by omega) (fun r hr => hin r (List.mem_cons_of_mem _ hr)) (fun j q1 q2 q3 => hout j (by omega) q2 (fun r hr => by
        rcases List.mem_cons.1 hr with rfl | hr
        · simp only;omega
        · exact q3 r hr))
    rw [this,List.append_assoc]
    rfl
theorem fold_at (rs : List (Int × Int × Int)) (e : Int) (pv : Option (Int × Int × Int)) (h : okFrom e pv rs = true) (he : 0 <= e) (l : List Int) (hl : l.length = 16) :
    (∀ j : Nat,(∀ r ∈ rs,¬ (r.1 <= (j : Int) /\ (j : Int) < r.1 + r.2.1)) -> (rs.foldl layRun l).getD j 0 = l.getD j 0) /\ ∀ r ∈ rs,∀ i : Nat,(i : Int) < r.2.1 -> (rs.foldl layRun l).getD (r.1.toNat + i) 0 = r.2.2 + i := by
  induction rs generalizing e pv l with
  | nil => exact ⟨fun j _ => rfl,fun r hr => by cases hr⟩
  | cons r rs ih =>
    obtain ⟨f,c,p⟩ := r;rw [okFrom,Bool.and_eq_true,runOk_iff] at h;obtain ⟨⟨h1,h2,h3,h4,h5,h6,h7⟩,h8⟩ := h
    have hlater : ∀ (rs : List (Int × Int × Int)) (e : Int) (pv : Option (Int × Int × Int)),okFrom e pv rs = true -> ∀ s ∈ rs,e <= s.1 := by
      intro rs
      induction rs with
      | nil => intro e pv _ s hs;cases hs
      | cons q qs ih2 =>
        intro e pv hq s hs;obtain ⟨qf,qc,qp⟩ := q;rw [okFrom,Bool.and_eq_true,runOk_iff] at hq;rcases List.mem_cons.1 hs with rfl | hs
        · exact hq.1.1
        · have := ih2 _ _ hq.2 s hs
          simp only at this
          omega
    have hl2 := hlater rs _ _ h8;simp only at hl2;obtain ⟨i1,i2⟩ := ih _ _ h8 (by simp only;omega) (layRun l (f,c,p)) (by rw [layRun_length];exact hl);rw [List.foldl_cons];have hw : ∀ j : Nat,(layRun l (f,c,p)).getD j 0 = if f.toNat <= j /\ j < f.toNat + c.toNat then p + ((j - f.toNat : Nat) : Int) else l.getD j 0 := fun j => lay_get l f.toNat p c.toNat j (by omega)
    refine ⟨fun j hj => ?_,fun s hs i hi => ?_⟩
    · rw [i1 j (fun r hr => hj r (List.mem_cons_of_mem _ hr)),hw j,if_neg]
      have := hj (f,c,p) (List.mem_cons_self ..);simp only at this
      omega
    · rcases List.mem_cons.1 hs with rfl | hs
      · simp only at hi ⊢
        rw [i1 _ (fun r hr => by have := hl2 r hr;omega),hw,if_pos (by omega)]
        congr 1
        omega
      · exact i2 s hs i hi
theorem mapOf_pages (rs : List (Int × Int × Int)) (h : mapOk rs = true) : mapOf (pages rs) = rs := by
  obtain ⟨h1,h2⟩ := fold_at rs 0 none (mapOk_from h) (by omega) none16 rfl;rw [mapOf,pages_length]
  have := upto_runs (pages rs) rs 0 [] rfl (mapOk_from h) (fun r hr => by cases hr) (by omega) h2 (fun j _ hj hno => by
    show (rs.foldl layRun none16).getD j 0 < 0
    rw [h1 j hno,none16_at j hj]
    omega)
  rwa [List.nil_append] at this
end Go.Proofs.YtcefcglonooelaaGreatDoor
namespace Go.Proofs.YtcefcglonooelaaGreatDoor
open Go.RowKit
set_option linter.unusedVariables false
set_option maxRecDepth 100000
def prevOf (rs : List (Int × Int × Int)) (k : Nat) : Option (Int × Int × Int) := if k = 0 then none else rs[k - 1]?
theorem okFrom_step (rs : List (Int × Int × Int)) (e : Int) (k : Nat) (h : k < rs.length) : okFrom e (prevOf rs k) (rs.drop k) = (runOk e (prevOf rs k) rs[k] && okFrom (rs[k].1 + rs[k].2.1) (prevOf rs (k + 1)) (rs.drop (k + 1))) := by
  rw [List.drop_eq_getElem_cons h,okFrom,prevOf,prevOf,if_neg (by omega : ¬ k + 1 = 0),Nat.add_sub_cancel,List.getElem?_eq_getElem h]
theorem runOk_false (e : Int) (pv : Option (Int × Int × Int)) (f c p : Int) (h : ¬ (e <= f /\ 1 <= c /\ c <= 16 /\ f <= 16 - c /\ 0 <= p /\ p <= 24 - c /\ ∀ q,pv = some q -> ¬ (f = e /\ p = q.2.2 + q.2.1))) : runOk e pv (f,c,p) = false := by
  rw [Bool.eq_false_iff];exact fun q => h ((runOk_iff e pv f c p).1 q)
set_option maxHeartbeats 3200000 in
theorem specMapOk_any (v : Value) (rs : List (Int × Int × Int)) (w : World) (r : ReadsR 3 runC w.heap.size w v rs) :
    Calls Tryz.prog 98 #[v] w fun e w' => e = .returned (.bool (mapOk rs)) /\ Below w.heap.size w w' := by
  obtain ⟨o,cap,rfl,hm,hc,-⟩ := r;have HC : Hid _ := three_cells hc;unfold maxLen at hm;clear hc
  go_enter Tryz.func98,Tryz.ntmps98
  go_wp2_with fail
  go_loopw [3,4] (fun q i wr => ∃ (k : Nat) (e : Int),k <= rs.length /\ i = .int .i64 k /\ q = .int .i64 e /\ (0 <= e /\ e <= 16) /\ okFrom 0 none rs = okFrom e (prevOf rs k) (rs.drop k) /\ (∀ q,prevOf rs k = some q -> 0 <= q.2.2 /\ q.2.2 <= 24 /\ 1 <= q.2.1 /\ q.2.1 <= 16) /\ Below w.heap.size w wr) (fun _ i _ => rs.length - (intOf i).toNat)
  case atStart => exact ⟨0,0,Nat.zero_le _,rfl,rfl,by omega,rfl,fun q hq => by simp [prevOf] at hq,Below.refl _ _⟩
  case round =>
    obtain ⟨k,e,hk,rfl,rfl,he,hok,hpv,hb⟩ := hrel;by_cases hlt : k < rs.length
    · obtain ⟨g,off,rfl,hg,a0,a1,a2⟩ := HC.out k hlt
      have hst := okFrom_step rs e k hlt;rw [<- hok] at hst;have HNO : Hid (runOk e (prevOf rs k) rs[k] = false -> mapOk rs = false) := fun h => by rw [mapOk,hst,h];rfl
      have HYES : Hid (runOk e (prevOf rs k) rs[k] = true -> okFrom 0 none rs = okFrom (rs[k].1 + rs[k].2.1) (prevOf rs (k + 1)) (rs.drop (k + 1))) := fun h => by rw [hst,h,Bool.true_and]
      have HPV1 : Hid (prevOf rs (k + 1) = some rs[k]) := by rw [Hid,prevOf,if_neg (by omega),Nat.add_sub_cancel,List.getElem?_eq_getElem hlt]
      have hprev : ∀ k',k = k' + 1 -> ∃ q,prevOf rs k = some q /\ w.cell? ⟨g,off + k' * 3 + 1,none⟩ = some (.int .i64 q.2.1) /\ w.cell? ⟨g,off + k' * 3 + 2,none⟩ = some (.int .i64 q.2.2) := fun k' hk' => by
        obtain ⟨g',off',e',-,-,b1,b2⟩ := HC.out k' (by omega);cases e';refine ⟨rs[k'],?_,b1,b2⟩;rw [prevOf,if_neg (by omega),show k - 1 = k' by omega,List.getElem?_eq_getElem (by omega)]
      have HPREV : Hid _ := hprev;have HPVB : Hid _ := hpv;replace a0 := (hb.cell (p := ⟨g,off + k * 3,none⟩) hg).trans a0;replace a1 := (hb.cell (p := ⟨g,off + k * 3 + 1,none⟩) hg).trans a1;replace a2 := (hb.cell (p := ⟨g,off + k * 3 + 2,none⟩) hg).trans a2;clear hst hok hprev hpv HC
      obtain ⟨x,hx⟩ : ∃ x,rs[k] = x := ⟨_,rfl⟩
      rw [hx] at a0 a1 a2 HNO HYES HPV1;clear hx;obtain ⟨f,c,p⟩ := x;simp only at a0 a1 a2 HNO HYES;have hbA : Below w.heap.size w (wr.alloc (.cells #[.int .i64 f,.int .i64 c,.int .i64 p] 129)) := bw_alloc hb;have kB := heap_alloc_new wr (.cells #[.int .i64 f,.int .i64 c,.int .i64 p] 129);have sB : wr.heap.size < (wr.alloc (.cells #[.int .i64 f,.int .i64 c,.int .i64 p] 129)).heap.size := by simp
      by_cases h1 : f < e
      · have HV : Hid _ := HNO.out (runOk_false e _ f c p (fun q => by omega))
        go_wp2_with fail
        go_ret;exact ⟨ret_bool HV.out.symm,hbA⟩
      go_wp2_with fail
      generalize wr.alloc (.cells #[.int .i64 f,.int .i64 c,.int .i64 p] 129) = W5 at *;generalize wr.heap.size = nB at *;obtain ⟨p0,p1,p2⟩ := c3 kB;refine (l1In_any c 1 16 _).mono ?_;rintro e' w' ⟨rfl,rfl⟩;cases h2 : (decide ((1 : Int) <= c) && decide (c <= 16))
      · have HH := h2
        have HV : Hid _ := HNO.out (runOk_false e _ f c p (fun q => by simp at HH;omega))
        go_wp2_with fail
        go_ret;exact ⟨ret_bool HV.out.symm,hbA⟩
      have h2' : 1 <= c /\ c <= 16 := by simpa using h2
      by_cases h3 : 16 - c < f
      · have HH : True := trivial
        have HV : Hid _ := HNO.out (runOk_false e _ f c p (fun q => by omega))
        go_wp2_with fail
        go_ret;exact ⟨ret_bool HV.out.symm,hbA⟩
      go_wp2_with fail
      refine (l1In_any p 0 (24 - c) _).mono ?_;rintro e' w' ⟨rfl,rfl⟩;cases h4 : (decide ((0 : Int) <= p) && decide (p <= 24 - c))
      · have HH := h4
        have HV : Hid _ := HNO.out (runOk_false e _ f c p (fun q => by simp at HH;omega))
        go_wp2_with fail
        go_ret;exact ⟨ret_bool HV.out.symm,hbA⟩
      have h4' : 0 <= p /\ p <= 24 - c := by simpa using h4
      clear h2 h4;rcases Nat.eq_zero_or_pos k with hk0 | hkp
      · subst hk0
        have HQ : ∀ q,prevOf rs 0 = some q -> ¬ (f = e /\ p = q.2.2 + q.2.1) := fun q hq => by simp [prevOf] at hq
        have HV : Hid _ := HYES.out ((runOk_iff e _ f c p).2 ⟨by omega,by omega,by omega,by omega,by omega,by omega,HQ⟩);have HPB : Hid (∀ q,prevOf rs (0 + 1) = some q -> 0 <= q.2.2 /\ q.2.2 <= 24 /\ 1 <= q.2.1 /\ q.2.1 <= 16) := fun q hq => by rw [HPV1.out] at hq;cases hq;simp only;omega
        clear HQ HYES HNO HPVB HPREV
        go_wp2_with fail
        go_quiet (fail)
        go_wp2_with fail
        go_roundw
        case rel => exact ⟨0 + 1,f + c,by omega,by go_num,by first | rfl | rw [e1],by omega,HV.out,HPB.out,⟨hbA.os,hbA.tape,hbA.output,hbA.size,hbA.block⟩⟩
        case measure => simp [intOf];omega
      · obtain ⟨k',rfl⟩ : ∃ k',k = k' + 1 := ⟨k - 1,by omega⟩
        obtain ⟨q,hpq,b1,b2⟩ := HPREV.out k' rfl;obtain ⟨hq1,hq2,hq3,hq4⟩ := HPVB.out q hpq;replace b1 := (hbA.cell (p := ⟨g,off + k' * 3 + 1,none⟩) hg).trans b1;replace b2 := (hbA.cell (p := ⟨g,off + k' * 3 + 2,none⟩) hg).trans b2;have hw1 : IntKind.i64.wrap ((k' : Int) + 1 - 1) = k' := by rw [IntKind.wrap_i64];omega
        have hw2 : (k' : Int) + 1 - 1 = k' := by omega
        have hw3 : IntKind.i64.wrap (k' : Int) = k' := by rw [IntKind.wrap_i64];omega
        have hw4 : IntKind.i64.wrap (q.2.2 + q.2.1) = q.2.2 + q.2.1 := by rw [IntKind.wrap_i64];omega
        have hi0 : (0 : Int) <= (k' : Int) := by omega
        have hi1 : (k' : Int) < (rs.length : Int) := by omega
        by_cases e1 : f = e
        · by_cases e2 : p = q.2.2 + q.2.1
          · have e1b : (f == e) = true := by simpa using e1
            have e2b : (p == q.2.2 + q.2.1) = true := by simpa using e2
            have HV : Hid _ := HNO.out (runOk_false e _ f c p (fun h => h.2.2.2.2.2.2 q hpq ⟨e1,e2⟩));clear HYES HNO HPVB HPREV
            go_wp2_with fail
            go_quiet (fail)
            go_wp2_with fail
            go_ret;exact ⟨ret_bool HV.out.symm,⟨hbA.os,hbA.tape,hbA.output,hbA.size,hbA.block⟩⟩
          · have e1b : (f == e) = true := by simpa using e1
            have e2b : (p == q.2.2 + q.2.1) = false := by simpa using e2
            have HQ : ∀ q',prevOf rs (k' + 1) = some q' -> ¬ (f = e /\ p = q'.2.2 + q'.2.1) := fun q' hq' h => by rw [hpq] at hq';cases hq';exact e2 h.2
            have HV : Hid _ := HYES.out ((runOk_iff e _ f c p).2 ⟨by omega,by omega,by omega,by omega,by omega,by omega,HQ⟩);have HPB : Hid (∀ q,prevOf rs ((k' + 1) + 1) = some q -> 0 <= q.2.2 /\ q.2.2 <= 24 /\ 1 <= q.2.1 /\ q.2.1 <= 16) := fun q hq => by rw [HPV1.out] at hq;cases hq;simp only;omega
            clear HQ hpq HYES HNO HPVB HPREV
            go_wp2_with fail
            go_quiet (fail)
            go_wp2_with fail
            go_roundw
            case rel => exact ⟨k' + 1 + 1,f + c,by omega,by go_num,by first | rfl | rw [e1],by omega,HV.out,HPB.out,⟨hbA.os,hbA.tape,hbA.output,hbA.size,hbA.block⟩⟩
            case measure => simp [intOf];omega
        · have e1b : (f == e) = false := by simpa using e1
          have HQ : ∀ q',prevOf rs (k' + 1) = some q' -> ¬ (f = e /\ p = q'.2.2 + q'.2.1) := fun q' hq' h => e1 h.1
          have HV : Hid _ := HYES.out ((runOk_iff e _ f c p).2 ⟨by omega,by omega,by omega,by omega,by omega,by omega,HQ⟩);have HPB : Hid (∀ q,prevOf rs ((k' + 1) + 1) = some q -> 0 <= q.2.2 /\ q.2.2 <= 24 /\ 1 <= q.2.1 /\ q.2.1 <= 16) := fun q hq => by rw [HPV1.out] at hq;cases hq;simp only;omega
          clear HQ hpq HYES HNO HPVB HPREV
          go_wp2_with fail
          go_quiet (fail)
          go_wp2_with fail
          go_roundw
          case rel => exact ⟨k' + 1 + 1,f + c,by omega,by go_num,by first | rfl | rw [e1],by omega,HV.out,HPB.out,⟨hbA.os,hbA.tape,hbA.output,hbA.size,hbA.block⟩⟩
          case measure => simp [intOf];omega
    · have hl : rs.drop k = [] := List.drop_of_length_le (by omega)
      have hv : mapOk rs = decide (rs.length <= 16) := by rw [mapOk,hok,hl];simp [okFrom]
      have HV : Hid _ := hv;clear hl hv hok
      go_wp2_with fail
      go_ret;exact ⟨ret_bool (by rw [HV.out,decide_eq_decide];omega),hb⟩
end Go.Proofs.YtcefcglonooelaaGreatDoor
