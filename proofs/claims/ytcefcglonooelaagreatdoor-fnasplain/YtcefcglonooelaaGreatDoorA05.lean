import Derived.WalkKit
import Derived.Test.YtcefcglonooelaaGreatDoorA01
import Derived.Test.YtcefcglonooelaaGreatDoorA04
namespace Go.Proofs.YtcefcglonooelaaGreatDoor
def cellOk (c p : Int) : Bool := (decide (0 <= c) && decide (c <= 400)) && (decide (0 <= p) && decide (p <= 999)) && !(decide (c = 0) && !decide (p = 0))
theorem cellOk_iff (c p : Int) : cellOk c p = true ↔ 0 <= c /\ c <= 400 /\ 0 <= p /\ p <= 999 /\ (c = 0 -> p = 0) := by
  simp only [cellOk,Bool.and_eq_true,decide_eq_true_eq,Bool.not_eq_true',Bool.and_eq_false_iff,decide_eq_false_iff_not,Bool.not_eq_false']
  constructor
  · rintro ⟨⟨⟨h1,h2⟩,h3,h4⟩,h5⟩
    refine ⟨h1,h2,h3,h4,fun h => ?_⟩;rcases h5 with h5 | h5
    · exact absurd h h5
    · exact h5
  · rintro ⟨h1,h2,h3,h4,h5⟩
    refine ⟨⟨⟨h1,h2⟩,h3,h4⟩,?_⟩;by_cases h : c = 0
    · exact .inr (h5 h)
    · exact .inl h
def poolOk (cs ps : List Int) : Bool := decide (1 <= cs.length /\ cs.length <= 24 /\ ps.length = cs.length /\ ∀ j,j < cs.length -> cellOk (cs.getD j 0) (ps.getD j 0) = true)
theorem poolOk_iff (cs ps : List Int) : poolOk cs ps = true ↔ (1 <= cs.length /\ cs.length <= 24 /\ ps.length = cs.length /\ ∀ j,j < cs.length -> cellOk (cs.getD j 0) (ps.getD j 0) = true) := by
  rw [poolOk,decide_eq_true_iff]
theorem poolOk_no (cs ps : List Int) (h : ¬ (1 <= cs.length /\ cs.length <= 24 /\ ps.length = cs.length /\ ∀ j,j < cs.length -> cellOk (cs.getD j 0) (ps.getD j 0) = true)) : poolOk cs ps = false := by
  rw [poolOk,decide_eq_false_iff_not];exact h
def firstFree (cs : List Int) : Nat := cs.findIdx fun c => decide (c = 0)
theorem firstFree_le (cs : List Int) : firstFree cs <= cs.length := List.findIdx_le_length
theorem firstFree_at (cs : List Int) (h : firstFree cs < cs.length) : cs.getD (firstFree cs) 0 = 0 := by
  have := List.findIdx_getElem (p := fun c => decide (c = (0 : Int))) (xs := cs) (w := h);rw [List.getD_eq_getElem?_getD,List.getElem?_eq_getElem h];exact of_decide_eq_true this
theorem firstFree_before (cs : List Int) (j : Nat) (h : j < firstFree cs) : cs.getD j 0 ≠ 0 := by
  have hl := firstFree_le cs;have := List.not_of_lt_findIdx (p := fun c => decide (c = 0)) (xs := cs) h;rw [List.getD_eq_getElem?_getD,List.getElem?_eq_getElem (by omega)]
  simpa using this
theorem firstFree_eq (cs : List Int) (k : Nat) (h : k < cs.length) (h0 : cs.getD k 0 = 0) (hb : ∀ j,j < k -> cs.getD j 0 ≠ 0) : firstFree cs = k := by
  have h1 : ¬ firstFree cs < k := fun q => hb _ q (firstFree_at cs (by omega))
  have h2 : ¬ k < firstFree cs := fun q => firstFree_before cs k q h0
  omega
theorem firstFree_none (cs : List Int) (hb : ∀ j,j < cs.length -> cs.getD j 0 ≠ 0) : firstFree cs = cs.length := by
  have h1 : ¬ firstFree cs < cs.length := fun q => hb _ q (firstFree_at cs q)
  have := firstFree_le cs
  omega
def tookC (cs : List Int) : List Int := if firstFree cs < cs.length then cs.set (firstFree cs) 1 else cs
def tookP (cs ps : List Int) (v : Int) : List Int := if firstFree cs < cs.length then ps.set (firstFree cs) v else ps
def tookAt (cs : List Int) : Int := if firstFree cs < cs.length then (firstFree cs : Int) else -1
def newPool (n : Int) : (List Int × List Int) × Bool :=
  if 1 <= n /\ n <= 24 then ((List.replicate n.toNat 0,List.replicate n.toNat 0),true) else (([],[]),false)
def countAt (cs : List Int) (at_ : Int) : Int := if 0 <= at_ /\ at_ < cs.length then cs.getD at_.toNat 0 else 0
def shared (cs ps : List Int) (at_ : Int) : (List Int × List Int) × Bool :=
  if poolOk cs ps = true then (if 1 <= countAt cs at_ /\ countAt cs at_ < 400 then ((cs.set at_.toNat (countAt cs at_ + 1),ps),true) else ((cs,ps),false)) else (([],[]),false)
def dropped (cs ps : List Int) (at_ : Int) : (List Int × List Int) × Bool :=
  if poolOk cs ps = true then (if 1 <= countAt cs at_ then ((cs.set at_.toNat (countAt cs at_ - 1),if countAt cs at_ = 1 then ps.set at_.toNat 0 else ps),true) else ((cs,ps),false)) else (([],[]),false)
def zeros (cs : List Int) : Nat := cs.countP fun c => decide (c = 0)
theorem getD_of (cs : List Int) (k : Nat) (h : k < cs.length) : cs.getD k 0 = cs[k] := by
  rw [List.getD_eq_getElem?_getD,List.getElem?_eq_getElem h];rfl
theorem getD_set (cs : List Int) (k j : Nat) (x : Int) (h : k < cs.length) : (cs.set k x).getD j 0 = if k = j then x else cs.getD j 0 := by
  rw [List.getD_eq_getElem?_getD,List.getElem?_set,List.getD_eq_getElem?_getD];by_cases e : k = j
  · subst e;simp [h]
  · simp [e]
theorem countAt_of (cs : List Int) (k : Nat) (h : k < cs.length) : countAt cs k = cs.getD k 0 := by
  unfold countAt;rw [if_pos (by omega),Int.toNat_natCast]
end Go.Proofs.YtcefcglonooelaaGreatDoor
namespace Go.Proofs.YtcefcglonooelaaGreatDoor
open Go.RowKit
set_option linter.unusedVariables false
set_option maxRecDepth 100000
def pageOf (rs : List (Int × Int × Int)) (place : Int) : Int := if mapOk rs = true /\ 0 <= place /\ place <= 15 then (pages rs).getD place.toNat 0 else -1
def cutAt (l : List Int) (n : Int) : List Int := (List.range 16).map fun k : Nat => if (k : Int) < n then l.getD k 0 else -1
def belowM (rs : List (Int × Int × Int)) (size : Int) : List (Int × Int × Int) := if mapOk rs = true then mapOf (cutAt (pages rs) size) else []
def pagesOf (rs : List (Int × Int × Int)) : List Int := if mapOk rs = true then (pages rs).filter (fun p => decide (0 <= p)) else []
theorem getD_set16 (l : List Int) (k j : Nat) (x : Int) (h : k < l.length) : (l.set k x).getD j 0 = if k = j then x else l.getD j 0 := by
  rw [List.getD_eq_getElem?_getD,List.getElem?_set,List.getD_eq_getElem?_getD];by_cases e : k = j
  · subst e;simp [h]
  · simp [e]
theorem set_range (rs : List (Int × Int × Int)) (h : mapOk rs = true) (k : Nat) (hk : k < 16) (page : Int) (hp : -1 <= page /\ page <= 23) : ∀ j,j < 16 -> -1 <= ((pages rs).set k page).getD j 0 /\ ((pages rs).set k page).getD j 0 <= 23 := fun j hj => by
  rw [getD_set16 _ _ _ _ (by rw [pages_length];exact hk)];by_cases e : k = j
  · rw [if_pos e];exact hp
  · rw [if_neg e];exact pages_range rs h j hj
theorem own_none (w : World) : (w.alloc (.cells #[] 129)).ownsRow w.heap.size 129 3 (.slice (some ⟨w.heap.size,0,none⟩) 0 0) 0 [] := World.ownsRow_lit w #[] 0 (Nat.le_refl _) (Nat.zero_le _) rfl
theorem run_append_fresh {P : Program} (w : World) (base : Nat) (t ty e : TypeId) (i : TypeInfo) (z : Value) (size bytes : Nat) (ht : P.underlying t = some (.slice e)) (hi : P.info? e = some i) (hz : i.zero = some z)
    (hsize : i.size = size) (hby : i.bytes = bytes) (hzs : z.cells.size = size) (hsz : 0 < size)
    (v : Value) (n : Nat) (xs : List Value) (hown : w.ownsRow base e size v n xs)
    (a : Addr) (m c : Nat) (news : List Value) (hl : news.length = m * size) (hnews : ∀ j u,news[j]? = some u -> w.cell? (a.add j) = some u) (h1 : ∀ u ∈ news,u.oneCell' = true)
    (h63 : n + m <= maxLen) (hbytes : (n + m) * bytes <= 140737488355328) (hbase : base <= w.heap.size) :
    ∃ v' w',(Builtin.append_ #[t,t] ty #[v,.slice (some a) m c]).run P w = .ok v' w' /\ w'.ownsRow base e size v' (n + m) (xs ++ news) /\ w.grownBy w' v.ownBlock /\ (v' = .slice none 0 0 ↔ v = .slice none 0 0 /\ m = 0) /\ ∀ k,v'.ownBlock = some k -> v.ownBlock = some k \/ w.heap.size <= k := by
  rcases hown.2 with ⟨rfl,rfl⟩ | ⟨g,cap,cur,rfl,hbg,hg,hnc,hcm,hcs,htake⟩
  · have hx : xs = [] := List.eq_nil_of_length_eq_zero (by simpa using hown.1)
    subst hx;obtain ⟨v',w',hr,ho,hg,hn⟩ := run_append_own (P := P) w w.heap.size t ty e i z size bytes ht hi hz hsize hby hzs hsz (.slice none 0 0) 0 [] (World.ownsRow_nil _ _ _ _) a m c news hl hnews h1 h63 hbytes (Nat.le_refl _);exact ⟨v',w',hr,owns_mono ho hbase,hg,hn,fun k hk => .inr (ho.lt k hk).1⟩
  · by_cases hroom : n + m <= cap
    · obtain ⟨w',hr,ho,hg'⟩ := run_append_fits (P := P) w base t ty e i size ht hi hsize g n cap xs hown a m c news hl hnews h1 hroom
      exact ⟨_,w',hr,ho,hg',by simp,fun k hk => .inl (by simpa [Value.ownBlock] using hk)⟩
    · obtain ⟨v',w',hr,ho,hg',hn⟩ := run_append_full (P := P) w w.heap.size t ty e i z size bytes ht hi hz hsize hby hzs ⟨g,0,none⟩ n cap xs hown.1 (hown.cells (g := g) rfl) a m c news hl hnews (by omega) h63 hbytes (Nat.le_refl _)
      exact ⟨v',w',hr,owns_mono ho hbase,⟨hg'.os,hg'.tape,hg'.output,hg'.size,fun k hk _ => hg'.block k hk (by simp)⟩,by simp [hn],fun k hk => .inr (ho.lt k hk).1⟩
theorem wpList_append_fresh {P : Program} {w : World} {ops : Array Oper} {rest : List Oper} {o : Oper} {a : Act} {Q : Exit -> Act -> World -> Prop} (hgd : o.guard = none) (s x : Operand) (t : TypeId)
    (ho : o.op = .call { callee := .builtin .append,args := #[s,x],argTypes := #[t,t] })
    (base : Nat) (e : TypeId) (i : TypeInfo) (z : Value) (size bytes : Nat) (ht : P.underlying t = some (.slice e)) (hi : P.info? e = some i) (hz : i.zero = some z)
    (hsize : i.size = size) (hby : i.bytes = bytes) (hzs : z.cells.size = size) (hsz : 0 < size)
    (v : Value) (n : Nat) (xs : List Value) (hs : a.eval s = v) (hown : w.ownsRow base e size v n xs)
    (ad : Addr) (m c : Nat) (news : List Value) (hx : a.eval x = .slice (some ad) m c) (hl : news.length = m * size) (hnews : ∀ j u,news[j]? = some u -> w.cell? (ad.add j) = some u) (h1 : ∀ u ∈ news,u.oneCell' = true)
    (h63 : n + m <= maxLen) (hbytes : (n + m) * bytes <= 140737488355328) (hbase : base <= w.heap.size)
    (h : ∀ v' w',w'.ownsRow base e size v' (n + m) (xs ++ news) -> w.grownBy w' v.ownBlock -> (v' = .slice none 0 0 ↔ v = .slice none 0 0 /\ m = 0) -> (∀ k,v'.ownBlock = some k -> v.ownBlock = some k \/ w.heap.size <= k) -> wpList P ops Q rest (a.put o.dst v') w') : wpList P ops Q (o :: rest) a w :=
  wpList_plain hgd fun K hK => by
    obtain ⟨v',w',hr,h2,h3,h4,h5⟩ := run_append_fresh (P := P) w base t o.type e i z size bytes ht hi hz hsize hby hzs hsz v n xs hown ad m c news hl hnews h1 h63 hbytes hbase;have hKK := hK _ _ (h v' w' h2 h3 h4 h5);unfold Oper.wp execOp;simp only [ho,resolve,invoke,builtin,Sem.run_bind,Sem.run_pure,Result.andThen_ok,List.map_toArray,List.map_cons,List.map_nil,hs,hx,hr];exact hKK
def cutMid (l : List Int) (s k : Nat) : List Int := (List.range 16).map fun j : Nat => if s <= j /\ j < k then -1 else l.getD j 0
theorem cutMid_length (l : List Int) (s k : Nat) : (cutMid l s k).length = 16 := by simp [cutMid]
theorem cutMid_get (l : List Int) (s k j : Nat) (hj : j < 16) : (cutMid l s k).getD j 0 = if s <= j /\ j < k then -1 else l.getD j 0 := by
  rw [List.getD_eq_getElem?_getD,cutMid,List.getElem?_map,List.getElem?_range hj];rfl
theorem cutMid_start (l : List Int) (s : Nat) (hl : l.length = 16) : cutMid l s s = l :=
  ext16 _ _ (cutMid_length _ _ _) hl fun j hj => by rw [cutMid_get l s s j hj,if_neg (by omega)]
theorem cutMid_step (l : List Int) (s k : Nat) (h : s <= k) (hk : k < 16) : (cutMid l s k).set k (-1) = cutMid l s (k + 1) :=
  ext16 _ _ (by rw [List.length_set,cutMid_length]) (cutMid_length _ _ _) fun j hj => by
    rw [getD_set16 _ _ _ _ (by rw [cutMid_length];exact hk),cutMid_get l s k j hj,cutMid_get l s (k + 1) j hj];by_cases e : k = j
    · rw [if_pos e,if_pos (by omega)]
    · rw [if_neg e]
      by_cases q : s <= j /\ j < k
      · rw [if_pos q,if_pos (by omega)]
      · rw [if_neg q,if_neg (by omega)]
theorem cutAt_length (l : List Int) (n : Int) : (cutAt l n).length = 16 := by simp [cutAt]
theorem cutAt_get (l : List Int) (n : Int) (j : Nat) (hj : j < 16) : (cutAt l n).getD j 0 = if (j : Int) < n then l.getD j 0 else -1 := by
  rw [List.getD_eq_getElem?_getD,cutAt,List.getElem?_map,List.getElem?_range hj];rfl
theorem cutMid_end (l : List Int) (n : Int) (s k : Nat) (hs : (s : Int) = max 0 n) (hk : 16 <= k) : cutMid l s k = cutAt l n :=
  ext16 _ _ (cutMid_length _ _ _) (cutAt_length _ _) fun j hj => by
    rw [cutMid_get l s k j hj,cutAt_get l n j hj];by_cases e : (j : Int) < n
    · rw [if_pos e,if_neg (by omega)]
    · rw [if_neg e,if_pos (by omega)]
theorem cutAt_range (rs : List (Int × Int × Int)) (h : mapOk rs = true) (n : Int) : ∀ j,j < 16 -> -1 <= (cutAt (pages rs) n).getD j 0 /\ (cutAt (pages rs) n).getD j 0 <= 23 := fun j hj => by
  rw [cutAt_get _ _ _ hj];by_cases e : (j : Int) < n
  · rw [if_pos e];exact pages_range rs h j hj
  · rw [if_neg e];omega
theorem l1Max_any (a b : Int) (w : World) :
    Calls Tryz.prog 163 #[.int .i64 a,.int .i64 b] w fun e w' => e = .returned (.int .i64 (max a b)) /\ w' = w := by
  by_cases h : a > b
  · have h2 : b < a := h
    go_enter Tryz.func163,Tryz.ntmps163
    go_wp2
    go_ret;exact ⟨ret_int (by show a = max a b;omega),rfl⟩
  · have h2 : ¬ b < a := h
    go_enter Tryz.func163,Tryz.ntmps163
    go_wp2
    go_ret;exact ⟨ret_int (by show b = max a b;omega),rfl⟩
set_option maxHeartbeats 1600000 in
theorem l5Below_any (v : Value) (rs : List (Int × Int × Int)) (size : Int) (w : World) (hsz : -9223372036854775808 <= size /\ size <= 9223372036854775807) (hok : mapOk rs = true) (r : ReadsR 3 runC w.heap.size w v rs) :
    Calls Tryz.prog 147 #[v,.int .i64 size] w fun e w' => ∃ v' : Value,e = .returned v' /\ w'.ownsRow w.heap.size 129 3 v' (mapOf (cutAt (pages rs) size)).length ((mapOf (cutAt (pages rs) size)).flatMap runC) /\ v' ≠ .slice none 0 0 /\ Below w.heap.size w w' := by
  have HOK : Hid _ := hok;clear hok
  go_enter Tryz.func147,Tryz.ntmps147
  go_wp2_with fail
  refine (l5Pages_any v rs _ HOK.out r).mono ?_;rintro e w1 ⟨g,cp,rfl,own,b1⟩;have bs := b1.size
  go_wp2_with fail
  refine (l1Max_any 0 size _).mono ?_;rintro e w2 ⟨rfl,rfl⟩
  obtain ⟨S,hS⟩ : ∃ S : Nat,max 0 size = S := ⟨(max 0 size).toNat,by omega⟩
  rw [hS];have HS : Hid ((S : Int) = max 0 size) := hS.symm;have hSb : (S : Int) <= 9223372036854775807 := by omega
  rw [<- cutMid_start (pages rs) S (pages_length rs)] at own;clear hS
  go_wp2_with fail
  go_loopw [6] (fun i wr => ∃ k : Nat,S <= k /\ (k <= 16 \/ k = S) /\ i = .int .i64 k /\ wr.ownsRow w.heap.size 2 1 (.slice (some ⟨g,0,none⟩) 16 cp) 16 ((cutMid (pages rs) S k).map (Value.int .i64)) /\ Below w.heap.size w wr) (fun i _ => 16 - (intOf i).toNat)
  case atStart => exact ⟨S,Nat.le_refl _,.inr rfl,rfl,own,b1⟩
  case round =>
    clear own b1;obtain ⟨k,hSk,hk,rfl,own,hb⟩ := hrel;by_cases hlt : k < 16
    · have hcl := cutMid_length (pages rs) S k
      have c0 := own.cellAt k (by omega);have c1 := own.frozenAt k;rw [List.getElem?_map,List.getElem?_eq_getElem (show k < (cutMid (pages rs) S k).length by omega)] at c0;simp only [Option.map_some] at c0;have hst := (own.stored k (.int .i64 (-1))).1;rw [<- List.map_set,cutMid_step (pages rs) S k hSk hlt] at hst;have hbf : Below w.heap.size w (wr.setCell ⟨g,k,none⟩ (.int .i64 (-1))) := bw_set (p := ⟨g,k,none⟩) hb (own.lt g rfl).1 _;have HO : Hid _ := And.intro hst hbf;generalize (cutMid (pages rs) S k)[k] = y at c0;clear own hst hbf hcl;have h0 : (0 : Int) <= (k : Int) := by omega
      have h1 : (k : Int) < 16 := by omega
      go_wp2_with fail
      go_roundw
      case rel => exact ⟨k + 1,by omega,by omega,by go_num,HO.out.1,HO.out.2⟩
      case measure => simp [intOf];omega
    · have h1 : ¬ (k : Int) < 16 := by omega
      rw [cutMid_end (pages rs) size S k HS.out (by omega)] at own;have HRD : Hid _ := Reads.of_own own;have hbs := hb.size;clear own
      go_wp2_with fail
      refine (l5Map_any _ (cutAt (pages rs) size) _ (cutAt_length _ _) (cutAt_range rs HOK.out size) HRD.out).mono ?_;rintro e w5 ⟨v',rfl,own5,hnn,b5⟩;have HF : Hid (w5.ownsRow w.heap.size 129 3 v' (mapOf (cutAt (pages rs) size)).length ((mapOf (cutAt (pages rs) size)).flatMap runC)) := owns_mono own5 hbs;have hb5 := bw_call hb b5;clear own5 b5
      go_wp2_with fail
      go_ret;exact ⟨v',rfl,HF.out,hnn,hb5⟩
theorem specBelow_any (v : Value) (rs : List (Int × Int × Int)) (size : Int) (w : World) (hsz : -9223372036854775808 <= size /\ size <= 9223372036854775807) (r : ReadsR 3 runC w.heap.size w v rs) :
    Calls Tryz.prog 140 #[v,.int .i64 size] w fun e w' => ∃ v' : Value,e = .returned v' /\ w'.ownsRow w.heap.size 129 3 v' (belowM rs size).length ((belowM rs size).flatMap runC) /\ v' ≠ .slice none 0 0 /\ Below w.heap.size w w' := by
  go_enter Tryz.func140,Tryz.ntmps140
  go_wp2_with fail
  refine (specMapOk_any v rs _ r).mono ?_;rintro e w1 ⟨rfl,b1⟩;have r1 := (r.below b1).mono b1.size;have bs := b1.size;cases hok : mapOk rs
  · have HV : Hid (belowM rs size = []) := by rw [Hid,belowM,if_neg (by rw [hok];simp)]
    have HO : Hid ((w1.alloc (.cells #[] 129)).ownsRow w.heap.size 129 3 (.slice (some ⟨w1.heap.size,0,none⟩) 0 0) 0 []) := owns_mono (own_none w1) bs;have hb := bw_alloc (o := .cells #[] 129) b1;clear r r1
    go_wp2_with fail
    go_ret;exact ⟨.slice (some ⟨w1.heap.size,0,none⟩) 0 0,rfl,by rw [HV.out];exact HO.out,by simp,hb⟩
  · have HV : Hid (belowM rs size = mapOf (cutAt (pages rs) size)) := by rw [Hid,belowM,if_pos hok]
    have HOK : Hid _ := hok;clear hok
    go_wp2_with fail
    refine (l5Below_any v rs size _ hsz HOK.out r1).mono ?_;rintro e w2 ⟨v',rfl,own,hnn,b2⟩;have HF : Hid (w2.ownsRow w.heap.size 129 3 v' (mapOf (cutAt (pages rs) size)).length ((mapOf (cutAt (pages rs) size)).flatMap runC)) := owns_mono own bs;have hb2 := bw_call b1 b2;clear own b2
    go_wp2_with fail
    go_ret;exact ⟨v',rfl,by rw [HV.out];exact HF.out,hnn,hb2⟩
theorem filter_take (l : List Int) (k : Nat) (h : k < l.length) : (l.take (k + 1)).filter (fun p => decide (0 <= p)) = (l.take k).filter (fun p => decide (0 <= p)) ++ (if 0 <= l[k] then [l[k]] else []) := by
  rw [List.take_succ_eq_append_getElem h,List.filter_append];by_cases e : 0 <= l[k] <;> simp [e]
set_option maxHeartbeats 1600000 in
theorem l5Of_any (v : Value) (rs : List (Int × Int × Int)) (w : World) (hok : mapOk rs = true) (r : ReadsR 3 runC w.heap.size w v rs) :
    Calls Tryz.prog 59 #[v] w fun e w' => ∃ v' : Value,e = .returned v' /\ w'.ownsRow w.heap.size 2 1 v' ((pages rs).filter (fun p => decide (0 <= p))).length (((pages rs).filter (fun p => decide (0 <= p))).map (Value.int .i64)) /\ v' ≠ .slice none 0 0 /\ Below w.heap.size w w' := by
  obtain ⟨i0,hi,hz0,hz1,hz2⟩ := info_parts Tryz.infoI64;have HOK : Hid _ := hok;have own0 : (w.alloc (.cells #[] 2)).ownsRow w.heap.size 2 1 (.slice (some ⟨w.heap.size,0,none⟩) 0 0) 0 [] := World.ownsRow_lit w #[] 0 (Nat.le_refl _) (Nat.zero_le _) rfl;have d0 : Below w.heap.size w (w.alloc (.cells #[] 2)) := bw_alloc (Below.refl _ _);have r0 := (r.below d0).mono d0.size;have hW : w.heap.size < (w.alloc (.cells #[] 2)).heap.size := by simp
  clear hok r
  go_enter Tryz.func59,Tryz.ntmps59
  go_wp2_with fail
  generalize w.alloc (.cells #[] 2) = W0 at *;refine (l5Pages_any v rs _ HOK.out r0).mono ?_;rintro e w1 ⟨g,cp,rfl,own,b1⟩;have own1 := owns_below own0 b1;have d1 := bw_call d0 b1;have hg := own.lt g rfl;have hpl := pages_length rs
  have HCELL : Hid (∀ j,j < 16 -> w1.cell? ⟨g,j,none⟩ = some (.int .i64 ((pages rs).getD j 0))) := fun j hj => by
    have c0 := own.cellAt j (by omega);rw [List.getElem?_map,List.getElem?_eq_getElem (show j < (pages rs).length by omega)] at c0;rw [c0,List.getD_eq_getElem?_getD,List.getElem?_eq_getElem (show j < (pages rs).length by omega)]
    rfl
  obtain ⟨L,hL⟩ : ∃ L,pages rs = L := ⟨_,rfl⟩
  rw [hL] at HCELL hpl;have HLL : Hid (pages rs = L) := hL;have HPL : Hid (L.length = 16) := hpl;clear hL;clear own0 d0 b1 own r0 hpl
  go_wp2_with fail
  go_loopw [3,5] (fun q i wr => ∃ (k b cq : Nat) (xs : List Int),k <= 16 /\ i = .int .i64 k /\ xs = (L.take k).filter (fun p => decide (0 <= p)) /\ q = .slice (some ⟨b,0,none⟩) xs.length cq /\ b ≠ g /\ wr.ownsRow w.heap.size 2 1 (.slice (some ⟨b,0,none⟩) xs.length cq) xs.length (xs.map (Value.int .i64)) /\ (∀ j,j < 16 -> wr.cell? ⟨g,j,none⟩ = some (.int .i64 (L.getD j 0))) /\ g < wr.heap.size /\ Below w.heap.size w wr) (fun _ i _ => 16 - (intOf i).toNat)
  case atStart => exact ⟨0,w.heap.size,0,[],Nat.zero_le _,rfl,by simp,rfl,by omega,own1,HCELL.out,hg.2,d1⟩
  case round =>
    clear own1 d1 HCELL hg;obtain ⟨k,b,cq,xs,hk,rfl,hxs,rfl,hbg,own,hcell,hgs,hb⟩ := hrel;have HXS : Hid _ := hxs;by_cases hlt : k < 16
    · have c0 := hcell k hlt
      have HCE : Hid _ := hcell
      have hxl : xs.length <= 16 := by
        rw [hxs];have h1 : ((L.take k).filter (fun p => decide (0 <= p))).length <= (L.take k).length := List.length_filter_le _ _;rw [List.length_take] at h1
        omega
      have hft := filter_take L k (by have := HPL.out;omega);rw [<- hxs] at hft;have hgd : L.getD k 0 = L[k]'(by have := HPL.out;omega) := by rw [List.getD_eq_getElem?_getD,List.getElem?_eq_getElem (by have := HPL.out;omega)];rfl
      rw [<- hgd] at hft;have HFT : Hid _ := hft;clear hft hgd hcell hxs;generalize L.getD k 0 = z at c0 HFT;have h0 : (0 : Int) <= (k : Int) := by omega
      have h1 : (k : Int) < 16 := by omega
      by_cases hz : 0 <= z
      · have HN : Hid (xs ++ [z] = (L.take (k + 1)).filter (fun p => decide (0 <= p))) := by rw [Hid,HFT.out,if_pos hz]
        have hgne : ¬ g = wr.heap.size := by omega
        go_wp2_with (at_builtin;refine wpList_append_fresh rfl _ _ 37 rfl w.heap.size 2 i0 (.int .i64 0) 1 8 Tryz.underlying37 hi hz0 hz1 hz2 rfl (by decide) _ _ _ rfl (own.alloc _) ⟨wr.heap.size,0,none⟩ 1 1 [.int .i64 z] rfl rfl ?c1 ?c2 ?c3 ?c4 ?c5 ?_)
        case c1 => exact new_one _ _ _
        case c2 => intro u hu;simp at hu;subst hu;rfl
        case c3 => unfold maxLen;omega
        case c4 => omega
        case c5 => have := hb.size;simp;omega
        intro v' w3 hown' hgrow hnil hfr;have own3 : w3.ownsRow w.heap.size 2 1 v' (xs ++ [z]).length ((xs ++ [z]).map (Value.int .i64)) := by simpa using hown'
        obtain ⟨b',cq',hv'⟩ : ∃ b' cq',v' = .slice (some ⟨b',0,none⟩) (xs ++ [z]).length cq' := by
          rcases own3.2 with ⟨e,_⟩ | ⟨b',cq',_,e,_⟩
          · exact absurd e hnil
          · exact ⟨b',cq',e⟩
        have hbg' : b' ≠ g := fun e => by
          rcases hfr b' (by rw [hv'];rfl) with h | h
          · simp [Value.ownBlock] at h;omega
          · first | omega | (simp at h;omega)
        have hblk : ∀ j,j < 16 -> w3.cell? ⟨g,j,none⟩ = some (.int .i64 (L.getD j 0)) := fun j hj => by
          refine hgrow.cell (a := ⟨g,j,none⟩) ?_ (by simp [Value.ownBlock];omega);exact (Below.cell (bw_alloc (Below.refl _ _)) (p := ⟨g,j,none⟩) hgs).trans (HCE.out j hj)
        have hb3 : Below w.heap.size w w3 := (bw_alloc hb).grown hgrow (by have := hb.size;simp;omega) (fun q hq => (own.lt q (by simpa [Value.ownBlock] using hq)).1);have hgs3 : g < w3.heap.size := by have := hgrow.size;simp at this;omega
        subst hv';have HO : Hid _ := And.intro own3 (And.intro hblk (And.intro hgs3 hb3));clear hown' hgrow hnil hfr own3 hblk hgs3 hb3 own
        go_wp2_with fail
        go_roundw
        case rel => exact ⟨k + 1,b',cq',xs ++ [z],by omega,by go_num,HN.out,by simp,hbg',HO.out.1,HO.out.2.1,HO.out.2.2.1,HO.out.2.2.2⟩
        case measure => simp [intOf];omega
      · have HN : Hid (xs = (L.take (k + 1)).filter (fun p => decide (0 <= p))) := by rw [Hid,HFT.out,if_neg hz,List.append_nil]
        go_wp2_with fail
        go_roundw
        case rel => exact ⟨k + 1,b,cq,xs,by omega,by go_num,HN.out,rfl,hbg,own,HCE.out,hgs,hb⟩
        case measure => simp [intOf];omega
    · obtain rfl : k = 16 := by omega
      have hfin : L.take 16 = L := List.take_of_length_le (by rw [HPL.out];exact Nat.le_refl _);rw [hfin] at hxs;have HXL : Hid (xs = L.filter (fun p => decide (0 <= p))) := hxs;clear hxs hcell HXS hfin
      go_wp2_with fail
      go_ret;rw [HLL.out,<- HXL.out];exact ⟨_,rfl,own,by simp,hb⟩
end Go.Proofs.YtcefcglonooelaaGreatDoor
namespace Go.Proofs.YtcefcglonooelaaGreatDoor
set_option linter.unusedVariables false
set_option maxRecDepth 100000
theorem fit_of (l : List Int) (h1 : l.length = 16) (h2 : ∀ j,j < 16 -> -1 <= l.getD j 0 /\ l.getD j 0 <= 23) : FitRuns (mapOf l) := fun r hr => by
  have := okFrom_mem _ 0 none (mapOk_from (mapOf_ok l h1 h2).1) (by omega) r hr;refine ⟨⟨?_,?_⟩,⟨?_,?_⟩,⟨?_,?_⟩⟩ <;> omega
theorem fit_nil : FitRuns [] := fun r hr => by cases hr
theorem fit_below (rs : List (Int × Int × Int)) (size : Int) : FitRuns (belowM rs size) := by
  unfold belowM;by_cases h : mapOk rs = true
  · rw [if_pos h];exact fit_of _ (cutAt_length _ _) (cutAt_range rs h size)
  · rw [if_neg h];exact fit_nil
end Go.Proofs.YtcefcglonooelaaGreatDoor
