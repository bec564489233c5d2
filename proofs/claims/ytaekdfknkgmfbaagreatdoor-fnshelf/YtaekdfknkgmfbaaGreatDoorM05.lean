import Derived.WalkKit
import Derived.Test.YtaekdfknkgmfbaaGreatDoorM01
import Derived.Test.YtaekdfknkgmfbaaGreatDoorM02
import Derived.Test.YtaekdfknkgmfbaaGreatDoorM04
namespace Go.Proofs.YtaekdfknkgmfbaaGreatDoor
open Go.RowKit
set_option linter.unusedVariables false
set_option maxRecDepth 100000
def endsBy (rs : List (Int × Int × Int)) (sz : Int) : Bool := match rs.getLast? with
  | none => true
  | some r => decide (r.1 + r.2.1 <= sz)
def bookOk (nm : ByteArray) (sz : Int) (rs : List (Int × Int × Int)) (ep : Int) : Bool :=
  Nums.nameB nm.data.toList && (decide (1 <= sz) && decide (sz <= 16)) && (decide (0 <= ep) && decide (ep <= 1000)) && mapOk rs && endsBy rs sz
theorem endsBy_at (rs : List (Int × Int × Int)) (sz : Int) (k : Nat) (h : rs.length = k + 1) : endsBy rs sz = decide ((rs[k]'(by omega)).1 + (rs[k]'(by omega)).2.1 <= sz) := by
  have : rs.getLast? = some (rs[k]'(by omega)) := by rw [List.getLast?_eq_getElem?,show rs.length - 1 = k by omega,List.getElem?_eq_getElem]
  rw [endsBy,this]
theorem map_in (rs : List (Int × Int × Int)) (h : mapOk rs = true) (k : Nat) (hk : k < rs.length) : 0 <= rs[k].1 /\ 1 <= rs[k].2.1 /\ rs[k].1 + rs[k].2.1 <= 16 := by
  have := okFrom_mem rs 0 none (mapOk_from h) (Int.le_refl _) rs[k] (List.getElem_mem hk)
  omega
set_option maxHeartbeats 1600000 in
theorem specBookOk_any (nm : ByteArray) (sz : Int) (m : Value) (rs : List (Int × Int × Int)) (fx : Bool) (ep : Int) (w : World) (hn : nm.size <= maxLen) (r : ReadsR 3 runC w.heap.size w m rs) :
    Calls Tryz.prog 75 #[.agg #[.string nm,.int .i64 sz,m,.bool fx,.int .i64 ep]] w fun e w' => e = .returned (.bool (bookOk nm sz rs ep)) /\ Below w.heap.size w w' := by
  obtain ⟨o,cap,rfl⟩ := r.form;obtain ⟨W0,hW0,k0,d0,z0⟩ := box1 w #[.string nm,.int .i64 sz,.slice o rs.length cap,.bool fx,.int .i64 ep] 48;have r0 := (r.below d0).mono d0.size;have HW0 : Hid (W0 = _) := hW0;obtain ⟨p0,p1,p2⟩ := c3 k0;have p4 := at_cell k0 4;clear hW0 r
  go_enter Tryz.func75,Tryz.ntmps75
  go_wp2_with fail
  rw [<- HW0.out];clear HW0;refine (specName_any nm _ hn).mono ?_;rintro e w' ⟨rfl,rfl⟩;cases h1 : Nums.nameB nm.data.toList
  · have HV : Hid (bookOk nm sz rs ep = false) := by simp [Hid,bookOk,h1]
    clear h1 k0
    go_wp2_with fail
    go_ret;exact ⟨ret_bool HV.out.symm,d0⟩
  have H1 : Hid _ := h1;clear h1
  go_wp2_with fail
  refine (l1In_any sz 1 16 _).mono ?_;rintro e w' ⟨rfl,rfl⟩;cases h2 : (decide (1 <= sz) && decide (sz <= 16))
  · have HV : Hid (bookOk nm sz rs ep = false) := by simp [Hid,bookOk,h2]
    clear h2 k0
    go_wp2_with fail
    go_ret;exact ⟨ret_bool HV.out.symm,d0⟩
  have H2 : Hid _ := h2;clear h2
  go_wp2_with fail
  refine (l1In_any ep 0 1000 _).mono ?_;rintro e w' ⟨rfl,rfl⟩;cases h3 : (decide (0 <= ep) && decide (ep <= 1000))
  · have HV : Hid (bookOk nm sz rs ep = false) := by simp [Hid,bookOk,h3]
    clear h3 k0
    go_wp2_with fail
    go_ret;exact ⟨ret_bool HV.out.symm,d0⟩
  have H3 : Hid _ := h3;clear h3
  go_wp2_with fail
  refine (specMapOk_any _ rs _ r0).mono ?_;rintro e w1 ⟨rfl,b1⟩;replace k0 := (b1.block _ (by omega)).trans k0;replace d0 := bw_call d0 b1;replace r0 := (r0.below b1).mono b1.size;clear p0 p1 p2 p4;cases h4 : mapOk rs
  · have HV : Hid (bookOk nm sz rs ep = false) := by simp [Hid,bookOk,h4]
    clear h4 k0 r0
    go_wp2_with fail
    go_ret;exact ⟨ret_bool HV.out.symm,d0⟩
  have p1 := at_cell k0 1;have p2 := at_cell k0 2;have HV : Hid (bookOk nm sz rs ep = endsBy rs sz) := by rw [Hid,bookOk,H1.out,H2.out,H3.out,h4];rfl
  obtain ⟨o',cap',e',hm,hc,-⟩ := r0;cases e';rcases Nat.eq_zero_or_pos rs.length with h0 | hpos
  · have HE : Hid (endsBy rs sz = true) := by rw [Hid,List.length_eq_zero_iff.1 h0];rfl
    rw [h0] at p2 ⊢;clear h4 k0 hc h0
    go_wp2_with fail
    go_quiet (fail)
    go_wp2_with fail
    go_ret;exact ⟨ret_bool (by rw [HV.out,HE.out]),⟨d0.os,d0.tape,d0.output,d0.size,d0.block⟩⟩
  · obtain ⟨k,hk⟩ : ∃ k,rs.length = k + 1 := ⟨rs.length - 1,by omega⟩
    have hlt : k < rs.length := by omega
    obtain ⟨g,off,rfl,hg,a0,a1,-⟩ := three_cells hc k hlt;have HE : Hid _ := endsBy_at rs sz k hk;have hin := map_in rs h4 k hlt;generalize rs[k] = x at a0 a1 HE hin;obtain ⟨f,c,p⟩ := x;simp only at a0 a1 HE hin;have hw1 : IntKind.i64.wrap ((k : Int) + 1 - 1) = k := by unfold maxLen at hm;rw [IntKind.wrap_i64];omega
    have hw2 : (k : Int) + 1 - 1 = k := by omega
    have hw4 : IntKind.i64.wrap (k : Int) = k := by unfold maxLen at hm;rw [IntKind.wrap_i64];omega
    have hw3 : IntKind.i64.wrap (f + c) = f + c := by rw [IntKind.wrap_i64];omega
    have hi0 : (0 : Int) <= (k : Int) := by omega
    have hi1 : (k : Int) < (k : Int) + 1 := by omega
    have hz : ((k : Int) + 1 == 0) = false := by rw [beq_eq_false_iff_ne];omega
    rw [hk] at p2;clear h4 k0 hc hpos hin;rw [hk];clear hk
    go_wp2_with fail
    go_quiet (fail)
    go_wp2_with fail
    go_ret;exact ⟨ret_bool (by rw [HV.out,HE.out]),⟨d0.os,d0.tape,d0.output,d0.size,d0.block⟩⟩
structure Bk where
  nm : ByteArray
  sz : Int
  m : Value
  rs : List (Int × Int × Int)
  fx : Bool
  ep : Int
def bookC (b : Bk) : List Value := [.string b.nm,.int .i64 b.sz,b.m,.bool b.fx,.int .i64 b.ep]
theorem bookC_len (b : Bk) : (bookC b).length = 5 := rfl
structure ReadsB (B : Nat) (w : World) (v : Value) (bs : List Bk) : Prop where
  row : ReadsR 5 bookC B w v bs
  maps : ∀ b ∈ bs,ReadsR 3 runC B w b.m b.rs
theorem ReadsB.below {B : Nat} {w w' : World} {v : Value} {bs : List Bk} (h : ReadsB B w v bs) (k : Below B w w') : ReadsB B w' v bs := ⟨h.row.below k,fun b hb => (h.maps b hb).below k⟩
theorem ReadsB.mono {B B' : Nat} {w : World} {v : Value} {bs : List Bk} (h : ReadsB B w v bs) (k : B <= B') : ReadsB B' w v bs := ⟨h.row.mono k,fun b hb => (h.maps b hb).mono k⟩
def newOk (nm : ByteArray) (sz : Int) : Bool := Nums.nameB nm.data.toList && (decide (1 <= sz) && decide (sz <= 16))
def newName (nm : ByteArray) (sz : Int) : ByteArray := if newOk nm sz = true then nm else ByteArray.empty
def newSize (nm : ByteArray) (sz : Int) : Int := if newOk nm sz = true then sz else 0
def findFrom (n : ByteArray) : List ByteArray -> Nat -> Int
  | [],_ => -1
  | x :: t,k => if x = n then (k : Int) else findFrom n t (k + 1)
def findB (bs : List Bk) (n : ByteArray) : Int := findFrom n (bs.map Bk.nm) 0
theorem find_at (bs : List Bk) (n : ByteArray) (k : Nat) (hk : k < bs.length) : findFrom n ((bs.map Bk.nm).drop k) k = if bs[k].nm = n then (k : Int) else findFrom n ((bs.map Bk.nm).drop (k + 1)) (k + 1) := by
  rw [List.drop_eq_getElem_cons (by simpa using hk),findFrom];simp
theorem find_end (bs : List Bk) (n : ByteArray) (k : Nat) (hk : ¬ k < bs.length) : findFrom n ((bs.map Bk.nm).drop k) k = -1 := by
  rw [List.drop_of_length_le (by simp;omega),findFrom]
theorem find_range (n : ByteArray) (l : List ByteArray) (k : Nat) : findFrom n l k = -1 \/ ((k : Int) <= findFrom n l k /\ findFrom n l k < k + l.length /\ l[(findFrom n l k).toNat - k]? = some n) := by
  induction l generalizing k with
  | nil => exact .inl rfl
  | cons x t ih =>
    rw [findFrom]
    split
    · rename_i h
      right
      subst h;simp
      omega
    · rcases ih (k + 1) with h | ⟨h1,h2,h3⟩
      · exact .inl h
      · right
        refine ⟨by omega,by simp;omega,?_⟩;rw [show (findFrom n t (k + 1)).toNat - k = (findFrom n t (k + 1)).toNat - (k + 1) + 1 by omega,List.getElem?_cons_succ];exact h3
theorem find_first (n : ByteArray) (l : List ByteArray) (k j : Nat) (h : l[j]? = some n) : (k : Int) <= findFrom n l k /\ findFrom n l k <= k + j := by
  induction l generalizing k j with
  | nil => simp at h
  | cons x t ih =>
    rw [findFrom]
    split
    · omega
    · rename_i hx
      match j,h with
      | 0,h => simp at h;exact absurd h hx
      | j + 1,h =>
        have := ih (k + 1) j (by simpa using h)
        omega
end Go.Proofs.YtaekdfknkgmfbaaGreatDoor
namespace Go.Proofs.YtaekdfknkgmfbaaGreatDoor
open Nums
set_option linter.unusedVariables false
set_option maxRecDepth 100000
structure Oq where
  k : Int
  nm : ByteArray
  ot : ByteArray
  at_ : Int
  va : Int
  ep : Int
def Oq.zero : Oq := ⟨0,ByteArray.empty,ByteArray.empty,0,0,0⟩
def kOther (k : Int) : Bool := decide (k = 4) || decide (k = 5)
def kAt (k : Int) : Bool := decide (k = 2) || decide (k = 3) || decide (k = 9)
def kSize (k : Int) : Bool := decide (k = 1) || decide (k = 7)
def kEpoch (k : Int) : Bool := decide (k = 2) || decide (k = 3) || decide (k = 6) || decide (k = 7)
def inB (x lo hi : Int) : Bool := decide (lo <= x) && decide (x <= hi)
def valOk (k va : Int) : Bool := if kSize k = true then inB va 1 16 else if k = 2 then inB va 0 999 else decide (va = 0)
def opOk (o : Oq) : Bool :=
  nameB o.nm.data.toList && inB o.k 1 9 && (kOther o.k == decide (o.ot.size ≠ 0)) && (!kOther o.k || nameB o.ot.data.toList) && (kAt o.k || decide (o.at_ = 0)) && inB o.at_ 0 255 && (kEpoch o.k || decide (o.ep = 0)) && inB o.ep 0 1000 && valOk o.k o.va
theorem inB_iff (x lo hi : Int) : inB x lo hi = true ↔ lo <= x /\ x <= hi := by simp [inB]
theorem nameB_size (s : ByteArray) (h : nameB s.data.toList = true) : 1 <= s.size /\ s.size <= 4 := by
  simp only [nameB,Bool.and_eq_true,decide_eq_true_eq] at h;have e : s.data.toList.length = s.size := by simp
  omega
theorem opOk_bd (o : Oq) (h : opOk o = true) : (1 <= o.k /\ o.k <= 9) /\ (1 <= o.nm.size /\ o.nm.size <= 4) /\ o.ot.size <= 4 /\ (0 <= o.at_ /\ o.at_ <= 255) /\ (0 <= o.va /\ o.va <= 999) /\ (0 <= o.ep /\ o.ep <= 1000) := by
  simp only [opOk,Bool.and_eq_true,inB_iff] at h;obtain ⟨⟨⟨⟨⟨⟨⟨⟨h1,h2⟩,h3⟩,h4⟩,h5⟩,h6⟩,h7⟩,h8⟩,h9⟩ := h;refine ⟨h2,nameB_size _ h1,?_,h6,?_,h8⟩
  · cases hk : kOther o.k
    · rw [hk] at h3
      simp at h3;have : o.ot.size = 0 := by rw [h3];rfl
      omega
    · rw [hk] at h4
      simp at h4;exact (nameB_size _ h4).2
  · unfold valOk at h9
    split at h9
    · rw [inB_iff] at h9;omega
    · split at h9
      · rw [inB_iff] at h9;omega
      · simp at h9;omega
theorem ext_list {a b : ByteArray} (h : a.data.toList = b.data.toList) : a = b := by
  cases a;cases b;simp at h;rw [h]
end Go.Proofs.YtaekdfknkgmfbaaGreatDoor
namespace Go.Proofs.YtaekdfknkgmfbaaGreatDoor
def cellOk (c p : Int) : Bool := (decide (0 <= c) && decide (c <= 400)) && (decide (0 <= p) && decide (p <= 999)) && !(decide (c = 0) && !decide (p = 0))
theorem cellOk_iff (c p : Int) : cellOk c p = true ↔ 0 <= c /\ c <= 400 /\ 0 <= p /\ p <= 999 /\ (c = 0 -> p = 0) := by
  simp only [cellOk,Bool.and_eq_true,decide_eq_true_eq,Bool.not_eq_true',Bool.and_eq_false_iff,decide_eq_false_iff_not,Bool.not_eq_false']
  constructor
  · rintro ⟨⟨⟨h1,h2⟩,h3,h4⟩,h5⟩
    refine ⟨h1,h2,h3,h4,fun h => ?_⟩;rcases h5 with h5 | h5
    · exact absurd h h5
    · exact h5
  · rintro ⟨h1,h2,h3,h4,h5⟩
    refine ⟨⟨⟨h1,h2⟩,h3,h4⟩,?_⟩;by_cases h : c = 0
    · exact .inr (h5 h)
    · exact .inl h
def poolOk (cs ps : List Int) : Bool := decide (1 <= cs.length /\ cs.length <= 24 /\ ps.length = cs.length /\ ∀ j,j < cs.length -> cellOk (cs.getD j 0) (ps.getD j 0) = true)
theorem poolOk_iff (cs ps : List Int) : poolOk cs ps = true ↔ (1 <= cs.length /\ cs.length <= 24 /\ ps.length = cs.length /\ ∀ j,j < cs.length -> cellOk (cs.getD j 0) (ps.getD j 0) = true) := by
  rw [poolOk,decide_eq_true_iff]
theorem poolOk_no (cs ps : List Int) (h : ¬ (1 <= cs.length /\ cs.length <= 24 /\ ps.length = cs.length /\ ∀ j,j < cs.length -> cellOk (cs.getD j 0) (ps.getD j 0) = true)) : poolOk cs ps = false := by
  rw [poolOk,decide_eq_false_iff_not];exact h
def firstFree (cs : List Int) : Nat := cs.findIdx fun c => decide (c = 0)
theorem firstFree_le (cs : List Int) : firstFree cs <= cs.length := List.findIdx_le_length
theorem firstFree_at (cs : List Int) (h : firstFree cs < cs.length) : cs.getD (firstFree cs) 0 = 0 := by
  have := List.findIdx_getElem (p := fun c => decide (c = (0 : Int))) (xs := cs) (w := h);rw [List.getD_eq_getElem?_getD,List.getElem?_eq_getElem h];exact of_decide_eq_true this
theorem firstFree_before (cs : List Int) (j : Nat) (h : j < firstFree cs) : cs.getD j 0 ≠ 0 := by
  have hl := firstFree_le cs;have := List.not_of_lt_findIdx (p := fun c => decide (c = 0)) (xs := cs) h;rw [List.getD_eq_getElem?_getD,List.getElem?_eq_getElem (by omega)]
  simpa using this
theorem firstFree_eq (cs : List Int) (k : Nat) (h : k < cs.length) (h0 : cs.getD k 0 = 0) (hb : ∀ j,j < k -> cs.getD j 0 ≠ 0) : firstFree cs = k := by
  have h1 : ¬ firstFree cs < k := fun q => hb _ q (firstFree_at cs (by omega))
  have h2 : ¬ k < firstFree cs := fun q => firstFree_before cs k q h0
  omega
theorem firstFree_none (cs : List Int) (hb : ∀ j,j < cs.length -> cs.getD j 0 ≠ 0) : firstFree cs = cs.length := by
  have h1 : ¬ firstFree cs < cs.length := fun q => hb _ q (firstFree_at cs q)
  have := firstFree_le cs
  omega
def tookC (cs : List Int) : List Int := if firstFree cs < cs.length then cs.set (firstFree cs) 1 else cs
def tookP (cs ps : List Int) (v : Int) : List Int := if firstFree cs < cs.length then ps.set (firstFree cs) v else ps
def tookAt (cs : List Int) : Int := if firstFree cs < cs.length then (firstFree cs : Int) else -1
def newPool (n : Int) : (List Int × List Int) × Bool :=
  if 1 <= n /\ n <= 24 then ((List.replicate n.toNat 0,List.replicate n.toNat 0),true) else (([],[]),false)
def takenPage (cs ps : List Int) (v : Int) : (List Int × List Int) × Int :=
  if poolOk cs ps = true then (if firstFree cs < cs.length /\ 0 <= v /\ v <= 999 then ((cs.set (firstFree cs) 1,ps.set (firstFree cs) v),(firstFree cs : Int)) else ((cs,ps),-1)) else (([],[]),-1)
def countAt (cs : List Int) (at_ : Int) : Int := if 0 <= at_ /\ at_ < cs.length then cs.getD at_.toNat 0 else 0
def shared (cs ps : List Int) (at_ : Int) : (List Int × List Int) × Bool :=
  if poolOk cs ps = true then (if 1 <= countAt cs at_ /\ countAt cs at_ < 400 then ((cs.set at_.toNat (countAt cs at_ + 1),ps),true) else ((cs,ps),false)) else (([],[]),false)
def dropped (cs ps : List Int) (at_ : Int) : (List Int × List Int) × Bool :=
  if poolOk cs ps = true then (if 1 <= countAt cs at_ then ((cs.set at_.toNat (countAt cs at_ - 1),if countAt cs at_ = 1 then ps.set at_.toNat 0 else ps),true) else ((cs,ps),false)) else (([],[]),false)
def zeros (cs : List Int) : Nat := cs.countP fun c => decide (c = 0)
def spare (cs ps : List Int) : Int := if poolOk cs ps = true then (zeros cs : Int) else -1
theorem getD_of (cs : List Int) (k : Nat) (h : k < cs.length) : cs.getD k 0 = cs[k] := by
  rw [List.getD_eq_getElem?_getD,List.getElem?_eq_getElem h];rfl
theorem getD_set (cs : List Int) (k j : Nat) (x : Int) (h : k < cs.length) : (cs.set k x).getD j 0 = if k = j then x else cs.getD j 0 := by
  rw [List.getD_eq_getElem?_getD,List.getElem?_set,List.getD_eq_getElem?_getD];by_cases e : k = j
  · subst e;simp [h]
  · simp [e]
theorem set_same (cs : List Int) (k : Nat) : cs.set k (cs.getD k 0) = cs := by
  apply List.ext_getElem? 
  intro j;rw [List.getElem?_set];by_cases e : k = j
  · subst e
    by_cases h : k < cs.length
    · simp [h]
    · simp [h]
  · simp [e]
theorem countAt_of (cs : List Int) (k : Nat) (h : k < cs.length) : countAt cs k = cs.getD k 0 := by
  unfold countAt;rw [if_pos (by omega),Int.toNat_natCast]
theorem countAt_pos (cs : List Int) (at_ : Int) (h : 1 <= countAt cs at_) : ∃ k : Nat,at_ = k /\ k < cs.length /\ countAt cs at_ = cs.getD k 0 := by
  unfold countAt at h ⊢
  split at h
  · next q => exact ⟨at_.toNat,by omega,by omega,by rw [if_pos q]⟩
  · omega
end Go.Proofs.YtaekdfknkgmfbaaGreatDoor
namespace Go.Proofs.YtaekdfknkgmfbaaGreatDoor
open Go.RowKit
set_option linter.unusedVariables false
set_option maxRecDepth 100000
def pageOf (rs : List (Int × Int × Int)) (place : Int) : Int := if mapOk rs = true /\ 0 <= place /\ place <= 15 then (pages rs).getD place.toNat 0 else -1
def mapped (rs : List (Int × Int × Int)) (place page : Int) : List (Int × Int × Int) × Bool :=
  if mapOk rs = true then (if (0 <= place /\ place <= 15) /\ -1 <= page /\ page <= 23 then (mapOf ((pages rs).set place.toNat page),true) else (rs,false)) else ([],false)
def cutAt (l : List Int) (n : Int) : List Int := (List.range 16).map fun k : Nat => if (k : Int) < n then l.getD k 0 else -1
def belowM (rs : List (Int × Int × Int)) (size : Int) : List (Int × Int × Int) := if mapOk rs = true then mapOf (cutAt (pages rs) size) else []
def pagesOf (rs : List (Int × Int × Int)) : List Int := if mapOk rs = true then (pages rs).filter (fun p => decide (0 <= p)) else []
theorem getD_set16 (l : List Int) (k j : Nat) (x : Int) (h : k < l.length) : (l.set k x).getD j 0 = if k = j then x else l.getD j 0 := by
  rw [List.getD_eq_getElem?_getD,List.getElem?_set,List.getD_eq_getElem?_getD];by_cases e : k = j
  · subst e;simp [h]
  · simp [e]
theorem set_range (rs : List (Int × Int × Int)) (h : mapOk rs = true) (k : Nat) (hk : k < 16) (page : Int) (hp : -1 <= page /\ page <= 23) : ∀ j,j < 16 -> -1 <= ((pages rs).set k page).getD j 0 /\ ((pages rs).set k page).getD j 0 <= 23 := fun j hj => by
  rw [getD_set16 _ _ _ _ (by rw [pages_length];exact hk)];by_cases e : k = j
  · rw [if_pos e];exact hp
  · rw [if_neg e];exact pages_range rs h j hj
theorem own_none (w : World) : (w.alloc (.cells #[] 112)).ownsRow w.heap.size 112 3 (.slice (some ⟨w.heap.size,0,none⟩) 0 0) 0 [] := World.ownsRow_lit w #[] 0 (Nat.le_refl _) (Nat.zero_le _) rfl
theorem run_append_fresh {P : Program} (w : World) (base : Nat) (t ty e : TypeId) (i : TypeInfo) (z : Value) (size bytes : Nat) (ht : P.underlying t = some (.slice e)) (hi : P.info? e = some i) (hz : i.zero = some z)
    (hsize : i.size = size) (hby : i.bytes = bytes) (hzs : z.cells.size = size) (hsz : 0 < size)
    (v : Value) (n : Nat) (xs : List Value) (hown : w.ownsRow base e size v n xs)
    (a : Addr) (m c : Nat) (news : List Value) (hl : news.length = m * size) (hnews : ∀ j u,news[j]? = some u -> w.cell? (a.add j) = some u) (h1 : ∀ u ∈ news,u.oneCell' = true)
    (h63 : n + m <= maxLen) (hbytes : (n + m) * bytes <= 140737488355328) (hbase : base <= w.heap.size) :
    ∃ v' w',(Builtin.append_ #[t,t] ty #[v,.slice (some a) m c]).run P w = .ok v' w' /\ w'.ownsRow base e size v' (n + m) (xs ++ news) /\ w.grownBy w' v.ownBlock /\ (v' = .slice none 0 0 ↔ v = .slice none 0 0 /\ m = 0) /\ ∀ k,v'.ownBlock = some k -> v.ownBlock = some k \/ w.heap.size <= k := by
  rcases hown.2 with ⟨rfl,rfl⟩ | ⟨g,cap,cur,rfl,hbg,hg,hnc,hcm,hcs,htake⟩
  · have hx : xs = [] := List.eq_nil_of_length_eq_zero (by simpa using hown.1)
    subst hx;obtain ⟨v',w',hr,ho,hg,hn⟩ := run_append_own (P := P) w w.heap.size t ty e i z size bytes ht hi hz hsize hby hzs hsz (.slice none 0 0) 0 [] (World.ownsRow_nil _ _ _ _) a m c news hl hnews h1 h63 hbytes (Nat.le_refl _);exact ⟨v',w',hr,owns_mono ho hbase,hg,hn,fun k hk => .inr (ho.lt k hk).1⟩
  · by_cases hroom : n + m <= cap
    · obtain ⟨w',hr,ho,hg'⟩ := run_append_fits (P := P) w base t ty e i size ht hi hsize g n cap xs hown a m c news hl hnews h1 hroom
      exact ⟨_,w',hr,ho,hg',by simp,fun k hk => .inl (by simpa [Value.ownBlock] using hk)⟩
    · obtain ⟨v',w',hr,ho,hg',hn⟩ := run_append_full (P := P) w w.heap.size t ty e i z size bytes ht hi hz hsize hby hzs ⟨g,0,none⟩ n cap xs hown.1 (hown.cells (g := g) rfl) a m c news hl hnews (by omega) h63 hbytes (Nat.le_refl _)
      exact ⟨v',w',hr,owns_mono ho hbase,⟨hg'.os,hg'.tape,hg'.output,hg'.size,fun k hk _ => hg'.block k hk (by simp)⟩,by simp [hn],fun k hk => .inr (ho.lt k hk).1⟩
theorem wpList_append_fresh {P : Program} {w : World} {ops : Array Oper} {rest : List Oper} {o : Oper} {a : Act} {Q : Exit -> Act -> World -> Prop} (hgd : o.guard = none) (s x : Operand) (t : TypeId)
    (ho : o.op = .call { callee := .builtin .append,args := #[s,x],argTypes := #[t,t] })
    (base : Nat) (e : TypeId) (i : TypeInfo) (z : Value) (size bytes : Nat) (ht : P.underlying t = some (.slice e)) (hi : P.info? e = some i) (hz : i.zero = some z)
    (hsize : i.size = size) (hby : i.bytes = bytes) (hzs : z.cells.size = size) (hsz : 0 < size)
    (v : Value) (n : Nat) (xs : List Value) (hs : a.eval s = v) (hown : w.ownsRow base e size v n xs)
    (ad : Addr) (m c : Nat) (news : List Value) (hx : a.eval x = .slice (some ad) m c) (hl : news.length = m * size) (hnews : ∀ j u,news[j]? = some u -> w.cell? (ad.add j) = some u) (h1 : ∀ u ∈ news,u.oneCell' = true)
    (h63 : n + m <= maxLen) (hbytes : (n + m) * bytes <= 140737488355328) (hbase : base <= w.heap.size)
    (h : ∀ v' w',w'.ownsRow base e size v' (n + m) (xs ++ news) -> w.grownBy w' v.ownBlock -> (v' = .slice none 0 0 ↔ v = .slice none 0 0 /\ m = 0) -> (∀ k,v'.ownBlock = some k -> v.ownBlock = some k \/ w.heap.size <= k) -> wpList P ops Q rest (a.put o.dst v') w') : wpList P ops Q (o :: rest) a w :=
  wpList_plain hgd fun K hK => by
    obtain ⟨v',w',hr,h2,h3,h4,h5⟩ := run_append_fresh (P := P) w base t o.type e i z size bytes ht hi hz hsize hby hzs hsz v n xs hown ad m c news hl hnews h1 h63 hbytes hbase;have hKK := hK _ _ (h v' w' h2 h3 h4 h5);unfold Oper.wp execOp;simp only [ho,resolve,invoke,builtin,Sem.run_bind,Sem.run_pure,Result.andThen_ok,List.map_toArray,List.map_cons,List.map_nil,hs,hx,hr];exact hKK
end Go.Proofs.YtaekdfknkgmfbaaGreatDoor
