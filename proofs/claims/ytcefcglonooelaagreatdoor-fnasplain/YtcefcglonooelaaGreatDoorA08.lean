import Derived.Test.YtcefcglonooelaaGreatDoorChecked
import Derived.ProofKit
import Derived.OpenShut
import Derived.ShutString
import Derived.Lib.SmallJoins
import Derived.SliceStrings
import Derived.ChangeSlices
import Derived.Test.YtcefcglonooelaaGreatDoorA01
import Derived.Test.YtcefcglonooelaaGreatDoorA06
import Derived.Test.YtcefcglonooelaaGreatDoorA07
namespace Go.Proofs.YtcefcglonooelaaGreatDoor
open Go.RowKit
set_option linter.unusedVariables false
set_option maxRecDepth 100000
def Src (w : World) (c : Nat) (x : Option Addr) (len : Nat) : Prop :=
  len <= maxLen /\ ∀ j,j < len -> ∃ b off z,x = some ⟨b,off,none⟩ /\ b < c /\ w.cell? ⟨b,off + j,none⟩ = some (.int .u8 z) /\ 0 <= z /\ z <= 255
theorem Src.below {w w' : World} {c : Nat} {x : Option Addr} {len : Nat} (h : Src w c x len) (k : Below c w w') : Src w' c x len :=
  ⟨h.1,fun j hj => by obtain ⟨b,off,z,e,hb,hz,r⟩ := h.2 j hj;exact ⟨b,off,z,e,hb,(k.cell (p := ⟨b,off + j,none⟩) hb).trans hz,r⟩⟩
theorem Src.mono {w : World} {c d : Nat} {x : Option Addr} {len : Nat} (h : Src w c x len) (k : c <= d) : Src w d x len :=
  ⟨h.1,fun j hj => by obtain ⟨b,off,z,e,hb,r⟩ := h.2 j hj;exact ⟨b,off,z,e,Nat.lt_of_lt_of_le hb k,r⟩⟩
theorem src_of {w : World} {a : Option Addr} {len cap : Nat} {zs : List Int} (h : (a = none /\ len = 0 /\ cap = 0 /\ zs = []) \/
    ∃ x,a = some x /\ len <= cap /\ cap <= maxLen /\ zs.length = cap /\ (∀ i,i < zs.length -> w.cell? (x.add i) = some (.int .u8 (zs.getD i 0))) /\ ∀ n ∈ zs,(Lit.int .u8 n).wf = true) : Src w w.heap.size a len := by
  rcases h with ⟨rfl,rfl,rfl,rfl⟩ | ⟨x,rfl,hl,hm,hz,hcell,hwz⟩
  · exact ⟨Nat.zero_le _,fun j hj => by omega⟩
  · refine ⟨Nat.le_trans hl hm,fun j hj => ?_⟩
    have hc := hcell j (by omega);obtain ⟨b,off,spot⟩ := x;have hspot : spot = none := by simpa [Addr.add] using World.cell?_spot (hcell 0 (by omega))
    subst hspot;have e : (⟨b,off,none⟩ : Addr).add j = ⟨b,off + j,none⟩ := by unfold Addr.add;split <;> simp_all
    rw [e] at hc
    have hb : b < w.heap.size := by
      rcases Nat.lt_or_ge b w.heap.size with q | q
      · exact q
      · simp [World.cell?,Array.getElem?_eq_none q] at hc
    have hw := hwz (zs.getD j 0) (by rw [List.getD_eq_getElem?_getD,List.getElem?_eq_getElem (by omega)];exact List.getElem_mem _);have hx : 0 <= zs.getD j 0 /\ zs.getD j 0 <= 255 := by simpa [Lit.wf,IntKind.min,IntKind.max,IntKind.signed,IntKind.bits] using hw
    exact ⟨b,off,_,rfl,hb,hc,hx.1,hx.2⟩
theorem Cur.new {w : World} {x : Option Addr} {len cap : Nat} (h : Src w w.heap.size x len) (q : Int) (t : TypeId) :
    Cur (w.alloc (.cells #[.slice x len cap,.int .i64 0,.int .i64 q] t)) w.heap.size x len cap := by
  have hb : Below w.heap.size w (w.alloc (.cells #[.slice x len cap,.int .i64 0,.int .i64 q] t)) := (Below.refl _ _).alloc (Nat.le_refl _) _;refine ⟨by simp [go_sem],h.1,by simp [go_sem],⟨0,q,Nat.zero_le _,by simp [go_sem],by simp [go_sem]⟩,by simp [go_sem],by simp [go_sem],fun j hj => ?_⟩;obtain ⟨b,off,z,e,hb',hz,r⟩ := h.2 j hj;exact ⟨b,off,z,e,hb',(hb.cell (p := ⟨b,off + j,none⟩) hb').trans hz,r⟩
set_option maxHeartbeats 400000 in
theorem new_any (x : Option Addr) (len cap : Nat) (w : World) (hs : Src w w.heap.size x len) :
    Calls Tryz.prog 32 #[.slice x len cap] w fun e w' => e = .returned (.pointer (some ⟨w.heap.size,0,none⟩)) /\ Below w.heap.size w w' /\ Cur w' w.heap.size x len cap := by
  obtain ⟨hm,hsrc⟩ := hs;have HS : Hid (∀ j,j < len -> ∃ b off z,x = some ⟨b,off,none⟩ /\ b < w.heap.size /\ w.cell? ⟨b,off + j,none⟩ = some (.int .u8 z) /\ 0 <= z /\ z <= 255) := hsrc;have HM : Hid (len <= maxLen) := hm;clear hsrc;unfold maxLen at hm
  go_enter Tryz.func32,Tryz.ntmps32
  go_wp2
  go_loop [3,4] (fun h i => ∃ (k : Nat) (q : Int),k <= len /\ i = .int .i64 k /\ h = .int .i64 q) (fun _ i => len - (intOf i).toNat)
  case atStart => exact ⟨0,_,Nat.zero_le _,rfl,rfl⟩
  case round =>
    obtain ⟨k,q,hk,rfl,rfl⟩ := hrel;by_cases hlt : k < len
    · obtain ⟨b,off,z,rfl,hb,hz,z0,z1⟩ := HS.out k hlt
      go_wp2
      go_round
      case rel => exact ⟨k + 1,_,by omega,by go_num,rfl⟩
      case measure => simp [intOf];omega
    · go_wp2
      go_ret;exact ⟨rfl,(Below.refl _ _).alloc (Nat.le_refl _) _,Cur.new ⟨HM.out,HS.out⟩ _ _⟩
set_option maxHeartbeats 400000 in
theorem below_any (c : Nat) (x : Option Addr) (len cap : Nat) (n : Int) (w : World) (hn : -9223372036854775808 <= n /\ n <= 9223372036854775807) (hc : Cur w c x len cap) :
    Calls Tryz.prog 36 #[.pointer (some ⟨c,0,none⟩),.int .i64 n] w fun e w' => ∃ y : Int,e = .returned (.int .i64 y) /\ (0 <= y /\ (0 < n -> y < n) /\ (n <= 0 -> y = 0)) /\ Upto c w w' /\ Cur w' c x len cap := by
  by_cases h0 : n <= 0
  · go_enter Tryz.func36,Tryz.ntmps36
    go_wp2_with fail
    go_ret;exact ⟨0,rfl,⟨by omega,by omega,by omega⟩,Upto.refl _ _,hc⟩
  · have h1 : 0 < n := by omega
    have hz : (n == 0) = false := by simp;omega
    by_cases h2 : n <= 256
    · go_enter Tryz.func36,Tryz.ntmps36
      go_wp2_with fail
      refine (byte_any c x len cap _ hc).mono ?_;rintro e w1 ⟨y,rfl,hy,u1,k1⟩
      go_wp2_with fail
      go_ret;exact ⟨y % n,rfl,⟨Int.emod_nonneg _ (by omega),fun _ => Int.emod_lt_of_pos _ h1,by omega⟩,u1,k1⟩
    · go_enter Tryz.func36,Tryz.ntmps36
      go_wp2_with fail
      refine (byte_any c x len cap _ hc).mono ?_;rintro e w1 ⟨y1,rfl,hy1,u1,k1⟩
      go_wp2_with fail
      refine (byte_any c x len cap _ k1).mono ?_;rintro e w2 ⟨y2,rfl,hy2,u2,k2⟩
      go_wp2_with fail
      refine (byte_any c x len cap _ k2).mono ?_;rintro e w3 ⟨y3,rfl,hy3,u3,k3⟩
      go_wp2_with fail
      refine (byte_any c x len cap _ k3).mono ?_;rintro e w4 ⟨y4,rfl,hy4,u4,k4⟩
      go_wp2_with fail
      go_ret;exact ⟨(y1 * 16777216 + y2 * 65536 + y3 * 256 + y4) % n,rfl,⟨Int.emod_nonneg _ (by omega),fun _ => Int.emod_lt_of_pos _ h1,by omega⟩,u1.trans (u2.trans (u3.trans u4)),k4⟩
theorem once_any (c : Nat) (x : Option Addr) (len cap : Nat) (n : Int) (w : World) (hn : -9223372036854775808 <= n /\ n <= 9223372036854775807) (hc : Cur w c x len cap) :
    Calls Tryz.prog 41 #[.pointer (some ⟨c,0,none⟩),.int .i64 n] w fun e w' => ∃ y : Bool,e = .returned (.bool y) /\ Upto c w w' /\ Cur w' c x len cap := by
  go_enter Tryz.func41,Tryz.ntmps41
  go_wp2_with fail
  refine (below_any c x len cap n _ hn hc).mono ?_;rintro e w1 ⟨y,rfl,hy,u1,k1⟩
  go_wp2_with fail
  go_ret;exact ⟨_,rfl,u1,k1⟩
end Go.Proofs.YtcefcglonooelaaGreatDoor
namespace Go.Proofs.YtcefcglonooelaaGreatDoor
open Go.ChangeShapes Go.WideShapes Go.ChangeAt Go.RowKit Go.Joins
set_option linter.unusedVariables false
set_option maxRecDepth 100000
theorem open_bytes {H : Type} {enc : TypeId × Value -> H} {W : World} {base : Nat} {v : Value} {d : DataW H} {p : List MemPlace} (hv : Value.okWide Tryz.prog W .any base 22 v) (h : DataW.Trod enc Tryz.prog W 0 (fun _ => true) true 22 v d p) :
    ∃ (a : Option Addr) (len cap : Nat),v = .slice a len cap /\ Src W W.heap.size a len := by
  obtain ⟨a,len,cap,rfl⟩ := okWide_slice Tryz.underlying22 hv;obtain ⟨n,hn⟩ := h;refine ⟨a,len,cap,rfl,?_⟩
  rcases open_ints Tryz.underlying22 Tryz.underlying5 (by kernel_rfl) hn with ⟨hcs,_⟩ | ⟨x,l,c,zs,hcs,_,hl,hm,hz,_,hcell,hwz⟩
  · simp [Value.cells] at hcs
    obtain ⟨rfl,rfl,rfl⟩ := hcs;exact src_of (zs := []) (.inl ⟨rfl,rfl,rfl,rfl⟩)
  · simp [Value.cells] at hcs
    obtain ⟨rfl,rfl,rfl⟩ := hcs;exact src_of (zs := zs) (.inr ⟨_,rfl,hl,hm,by simpa using hz,hcell,hwz⟩)
end Go.Proofs.YtcefcglonooelaaGreatDoor
namespace Go.Proofs.YtcefcglonooelaaGreatDoor
open Go.RowKit
set_option linter.unusedVariables false
set_option maxRecDepth 100000
theorem cnt_empty (nm : ByteArray) (sz : Int) (fx : Bool) (ep : Int) (k : Nat) : (⟨nm,sz,[],fx,ep⟩ : Pb).cnt (k : Int) = 0 := by
  show (((List.replicate 16 (-1 : Int)).count (k : Int) : Nat) : Int) = 0
  rw [List.count_replicate,if_neg (by rw [beq_iff_eq];omega)]
  rfl
theorem cnt_out {s : Sf} (h : ShInv s) (i : Nat) (hi : i < s.bs.length) (k : Nat) (h1 : s.cs.length <= k) (h2 : k < 24) : s.bs[i].cnt (k : Int) = 0 := by
  have := cntAll_at s.bs i hi (k : Int);have := cnt_nonneg s.bs[i] (k : Int);have := h.out k h1 h2
  omega
theorem ShInv.put {s : Sf} (h : ShInv s) (i : Nat) (hi : i < s.bs.length) (b : Pb) (hok : b.ok = true) (hn : b.nm = s.bs[i].nm) (cs ps : List Int) (hc : Cells s.cs.length cs ps)
    (hcnt : ∀ k,k < s.cs.length -> cs.getD k 0 = s.cs.getD k 0 - s.bs[i].cnt (k : Int) + b.cnt (k : Int)) (hout : ∀ k,s.cs.length <= k -> k < 24 -> b.cnt (k : Int) = 0) : ShInv ⟨cs,ps,s.bs.set i b⟩ := by
  have hl := hc.c;refine ⟨by simp only;rw [hl];exact h.n1,by simp only;rw [hl];exact hc,by simpa using h.few,fun x hx => ?_,?_,fun k hk => ?_,fun k hk hk2 => ?_⟩
  · rcases List.mem_or_eq_of_mem_set hx with hx | rfl
    · exact h.oks x hx
    · exact hok
  · simp only
    rw [List.map_set,hn]
    have : (s.bs.map Pb.nm).set i s.bs[i].nm = s.bs.map Pb.nm := by
      have e : s.bs[i].nm = (s.bs.map Pb.nm)[i]'(by simpa using hi) := by simp
      rw [e,List.set_getElem_self]
    rw [this];exact h.srt
  · simp only at hk ⊢
    rw [hl] at hk;rw [hcnt k hk,cntAll_set s.bs i hi,h.cnt k hk]
  · simp only at hk ⊢
    rw [hl] at hk;rw [cntAll_set s.bs i hi,h.out k hk hk2,cnt_out h i hi k hk hk2,hout k hk hk2]
    rfl
theorem ShInv.insert {s : Sf} (h : ShInv s) (b : Pb) (hok : b.ok = true) (hn : findP s.bs b.nm < 0) (hf : s.bs.length < 6) (cs : List Int) (hc : Cells s.cs.length cs s.ps)
    (hcnt : ∀ k,k < s.cs.length -> cs.getD k 0 = s.cs.getD k 0 + b.cnt (k : Int)) (hout : ∀ k,s.cs.length <= k -> k < 24 -> b.cnt (k : Int) = 0) : ShInv ⟨cs,s.ps,insertP s.bs b⟩ := by
  have hl := hc.c
  have hlen : (insertP s.bs b).length = s.bs.length + 1 := by
    unfold insertP;simp only [List.length_append,List.length_take,List.length_drop,List.length_cons,List.length_nil]
    omega
  refine ⟨by simp only;rw [hl];exact h.n1,by simp only;rw [hl];exact hc,by simp only;omega,fun x hx => ?_,?_,fun k hk => ?_,fun k hk hk2 => ?_⟩
  · simp only [insertP,List.mem_append,List.mem_singleton] at hx
    rcases hx with (hx | rfl) | hx
    · exact h.oks x (List.mem_of_mem_take hx)
    · exact hok
    · exact h.oks x (List.mem_of_mem_drop hx)
  · exact insert_sorted s.bs b h.srt (fun x hx => find_not s.bs b.nm hn x hx)
  · simp only at hk ⊢
    rw [hl] at hk;rw [hcnt k hk,insertP,cntAll_insert,h.cnt k hk]
  · simp only at hk ⊢
    rw [hl] at hk;rw [insertP,cntAll_insert,h.out k hk hk2,hout k hk hk2]
    rfl
theorem ShInv.erase {s : Sf} (h : ShInv s) (i : Nat) (hi : i < s.bs.length) (cs ps : List Int) (hc : Cells s.cs.length cs ps)
    (hcnt : ∀ k,k < s.cs.length -> cs.getD k 0 = s.cs.getD k 0 - s.bs[i].cnt (k : Int)) : ShInv ⟨cs,ps,s.bs.take i ++ s.bs.drop (i + 1)⟩ := by
  have hl := hc.c
  have hsub : (s.bs.take i ++ s.bs.drop (i + 1)).Sublist s.bs := by
    have e := List.take_append_drop i s.bs
    have d : (s.bs.drop (i + 1)).Sublist (s.bs.drop i) := by
      rw [List.drop_eq_getElem_cons hi];exact List.sublist_cons_self _ _
    have := (List.Sublist.refl (s.bs.take i)).append d
    rwa [e] at this
  refine ⟨by simp only;rw [hl];exact h.n1,by simp only;rw [hl];exact hc,Nat.le_trans hsub.length_le h.few,fun x hx => h.oks x (hsub.subset hx),h.srt.sublist (hsub.map _),fun k hk => ?_,fun k hk hk2 => ?_⟩
  · simp only at hk ⊢
    rw [hl] at hk;rw [hcnt k hk,cntAll_erase s.bs i hi,h.cnt k hk]
  · simp only at hk ⊢
    rw [hl] at hk;rw [cntAll_erase s.bs i hi,h.out k hk hk2,cnt_out h i hi k hk hk2]
    rfl
theorem cutAt_split (l : List Int) (hl : l.length = 16) (n : Nat) (hn : n <= 16) : cutAt l n = l.take n ++ List.replicate (16 - n) (-1) := by
  apply List.ext_getElem?
  intro j;unfold cutAt;by_cases hj : j < 16
  · rw [List.getElem?_map,List.getElem?_range hj]
    by_cases h : j < n
    · rw [List.getElem?_append_left (by simp;omega),List.getElem?_take_of_lt h,List.getElem?_eq_getElem (by omega)]
      simp only [Option.map_some];rw [if_pos (by omega),getD_of l j (by omega)]
    · rw [List.getElem?_append_right (by simp;omega),List.getElem?_replicate,if_pos (by simp;omega)]
      simp only [Option.map_some];rw [if_neg (by omega)]
  · rw [List.getElem?_eq_none (by simp;omega),List.getElem?_eq_none (by simp;omega)]
theorem cutAt_count (l : List Int) (hl : l.length = 16) (n : Nat) (hn : n <= 16) (k : Nat) : ((cutAt l n).count (k : Int) : Int) = (l.count (k : Int) : Int) - ((l.drop n).count (k : Int) : Int) := by
  have e : l.count (k : Int) = (l.take n).count (k : Int) + (l.drop n).count (k : Int) := by rw [<- List.count_append,List.take_append_drop]
  rw [cutAt_split l hl n hn,List.count_append,List.count_replicate,if_neg (by rw [beq_iff_eq];omega)]
  omega
theorem set_count (l : List Int) (j : Nat) (hj : j < l.length) (v : Int) (k : Nat) : ((l.set j v).count (k : Int) : Int) = (l.count (k : Int) : Int) - (if l.getD j 0 = (k : Int) then 1 else 0) + (if v = (k : Int) then 1 else 0) := by
  rw [List.count_set hj,getD_of l j hj];by_cases h1 : l[j] = (k : Int)
  · have hp : 1 <= l.count (k : Int) := by
      have : (k : Int) ∈ l := by rw [<- h1];exact List.getElem_mem hj
      exact List.count_pos_iff.2 this
    rw [if_pos h1,if_pos (by rw [beq_iff_eq];exact h1)];by_cases h2 : v = (k : Int)
    · rw [if_pos h2,if_pos (by rw [beq_iff_eq];exact h2)];omega
    · rw [if_neg h2,if_neg (by rw [beq_iff_eq];exact h2)];omega
  · rw [if_neg h1,if_neg (by rw [beq_iff_eq];exact h1)]
    by_cases h2 : v = (k : Int)
    · rw [if_pos h2,if_pos (by rw [beq_iff_eq];exact h2)];omega
    · rw [if_neg h2,if_neg (by rw [beq_iff_eq];exact h2)];omega
theorem cut_pages (rs : List (Int × Int × Int)) (hm : mapOk rs = true) (n : Nat) (hn : n <= 16) : mapOk (mapOf (cutAt (pages rs) n)) = true /\ pages (mapOf (cutAt (pages rs) n)) = cutAt (pages rs) n /\ endsBy (mapOf (cutAt (pages rs) n)) n = true := by
  have hr := cutAt_range rs hm n;have h := mapOf_ok (cutAt (pages rs) n) (cutAt_length _ _) hr;exact ⟨h.1,h.2,ends_of _ (cutAt_length _ _) hr n hn (fun j h1 h2 => by rw [cutAt_get _ _ j h2,if_neg (by omega)];omega)⟩
theorem set_pages (b : Pb) (hb : b.ok = true) (j : Nat) (hj : (j : Int) < b.sz) (v : Int) (hv : -1 <= v /\ v <= 23) : mapOk (mapOf ((pages b.rs).set j v)) = true /\ pages (mapOf ((pages b.rs).set j v)) = (pages b.rs).set j v /\ endsBy (mapOf ((pages b.rs).set j v)) b.sz = true := by
  obtain ⟨-,hs,-,hm,he⟩ := book_parts hb;have hr := set_range b.rs hm j (by omega) v hv;have hl : ((pages b.rs).set j v).length = 16 := by rw [List.length_set,pages_length]
  have h := mapOf_ok _ hl hr;obtain ⟨z,hz⟩ := Int.eq_ofNat_of_zero_le (show 0 <= b.sz by omega);refine ⟨h.1,h.2,?_⟩;rw [hz]
  exact ends_of _ hl hr z (by omega) (fun i h1 h2 => by
    rw [getD_set16 _ _ _ _ (by rw [pages_length];omega),if_neg (by omega),ends_to b.rs b.sz hm he i h2 (by omega)]
    omega)
theorem cut_ok {s : Sf} (h : ShInv s) (i : Nat) (hi : i < s.bs.length) (n : Nat) (hn : n <= 16) : Cells s.cs.length (cutBook s i n).cs (cutBook s i n).ps /\ ∀ k,k < s.cs.length -> (cutBook s i n).cs.getD k 0 = s.cs.getD k 0 - (((pages s.bs[i].rs).drop n).count (k : Int) : Int) := by
  unfold cutBook;rw [bookAt_of s.bs i hi];simp only;refine dropAll_ok _ h.cells (fun p hp => ?_) (fun k hk => ?_)
  · by_cases h0 : 0 <= p
    · exact (h.page i hi p (List.mem_of_mem_drop hp) h0).1
    · omega
  · have h1 := cnt_le_cs h i hi k hk
    unfold Pb.cnt at h1;have h2 := (List.drop_sublist n (pages s.bs[i].rs)).count_le (k : Int)
    omega
theorem Cells.same {n : Nat} {cs ps : List Int} (h : Cells n cs ps) (p : Nat) (hp : p < n) (v : Int) (hv : 0 <= v /\ v <= 999) (hc : cs.getD p 0 ≠ 0) : Cells n cs (ps.set p v) :=
  ⟨h.c,by simpa using h.p,fun k hk => by
    rw [getD_set ps p k v (by rw [h.p];exact hp)];have := h.val k hk;by_cases e : p = k
    · subst e;rw [if_pos rfl];exact ⟨hv.1,hv.2,fun q => absurd q hc⟩
    · rw [if_neg e];exact this⟩
theorem Cells.took {n : Nat} {cs ps : List Int} (h : Cells n cs ps) (v : Int) (hv : 0 <= v /\ v <= 999) (hf : firstFree cs < cs.length) : Cells n (tookC cs) (tookP cs ps v) /\ ∀ k,k < n -> (tookC cs).getD k 0 = cs.getD k 0 + (if tookAt cs = (k : Int) then 1 else 0) := by
  have hc := h.c;have h0 := firstFree_at cs hf;unfold tookC tookP tookAt;rw [if_pos hf,if_pos hf,if_pos hf];have g : ∀ k,(cs.set (firstFree cs) 1).getD k 0 = if firstFree cs = k then 1 else cs.getD k 0 := fun k => getD_set cs _ k _ hf
  refine ⟨⟨by simpa using hc,by simpa using h.p,fun k hk => ?_⟩,fun k hk => ?_⟩
  · rw [g,getD_set ps _ k v (by rw [h.p];omega)]
    have := h.val k hk;by_cases e : firstFree cs = k
    · rw [if_pos e,if_pos e];exact ⟨hv.1,hv.2,fun q => by omega⟩
    · rw [if_neg e,if_neg e];exact this
  · rw [g]
    by_cases e : firstFree cs = k
    · subst e;rw [if_pos rfl,if_pos rfl];omega
    · rw [if_neg e,if_neg (by omega)];omega
theorem op_parts {o : Oq} (h : opOk o = true) : Nums.nameB o.nm.data.toList = true /\ (1 <= o.k /\ o.k <= 9) /\ (kOther o.k = true -> Nums.nameB o.ot.data.toList = true) /\ (0 <= o.at_ /\ o.at_ <= 255) /\ (kSize o.k = true -> 1 <= o.va /\ o.va <= 16) /\ (o.k = 2 -> 0 <= o.va /\ o.va <= 999) := by
  simp only [opOk,Bool.and_eq_true,inB_iff] at h;obtain ⟨⟨⟨⟨⟨⟨⟨⟨h1,h2⟩,h3⟩,h4⟩,h5⟩,h6⟩,h7⟩,h8⟩,h9⟩ := h;refine ⟨h1,h2,fun q => ?_,h6,fun q => ?_,fun q => ?_⟩
  · rw [q] at h4;simpa using h4
  · unfold valOk at h9;rw [if_pos q,inB_iff] at h9;exact h9
  · unfold valOk at h9
    rw [q] at h9;simp only [kSize] at h9;rw [if_neg (by decide),if_pos (by trivial),inB_iff] at h9;exact h9
theorem refused_parts {bs : List Pb} {o : Oq} (h : refused bs o = 0) : (o.k ≠ 1 -> 0 <= findP bs o.nm) /\ (o.k = 1 -> findP bs o.nm < 0 /\ bs.length ≠ 6) /\ (kOther o.k = true -> findP bs o.ot < 0 /\ (o.k ≠ 1 -> bs.length ≠ 6)) /\ (o.k ≠ 1 -> kAt o.k = true -> o.at_ < (bookAt bs (findP bs o.nm)).sz) /\ (o.k = 8 -> (bookAt bs (findP bs o.nm)).ep ≠ 1000) := by
  unfold refused at h
  split at h
  · omega
  rename_i h1
  split at h
  · omega
  rename_i h2
  have a1 : o.k ≠ 1 -> 0 <= findP bs o.nm := fun q => by
    by_cases z : findP bs o.nm < 0
    · exact absurd ⟨q,z⟩ h1
    · omega
  have a3 : kOther o.k = true -> findP bs o.ot < 0 := fun q => by
    by_cases z : 0 <= findP bs o.ot
    · exact absurd (.inr ⟨q,z⟩) h2
    · omega
  have a2 : o.k = 1 -> findP bs o.nm < 0 := fun q => by
    by_cases z : 0 <= findP bs o.nm
    · exact absurd (.inl ⟨q,z⟩) h2
    · omega
  split at h
  · rename_i h3
    have a4 : bs.length ≠ 6 := fun q => by rw [if_pos q] at h;omega
    exact ⟨a1,fun q => ⟨a2 q,a4⟩,fun q => ⟨a3 q,fun _ => a4⟩,fun q => absurd h3 q,fun q => by omega⟩
  rename_i h3
  split at h
  · omega
  split at h
  · omega
  split at h
  · omega
  rename_i h6
  split at h
  · omega
  rename_i h7
  split at h
  · omega
  rename_i h8
  exact ⟨a1,fun q => absurd q h3,fun q => ⟨a3 q,fun _ z => h7 ⟨q,z⟩⟩,fun _ q => by
    by_cases z : (bookAt bs (findP bs o.nm)).sz <= o.at_
    · exact absurd ⟨q,z⟩ h6
    · omega,fun q z => h8 ⟨q,z⟩⟩
theorem filter_count (rs : List (Int × Int × Int)) (hm : mapOk rs = true) (k : Nat) : (pagesOf rs).count (k : Int) = (pages rs).count (k : Int) := by
  unfold pagesOf;rw [if_pos hm,List.count_filter (by simp)]
set_option maxHeartbeats 1600000 in
theorem kind_inv {s : Sf} (h : ShInv s) (o : Oq) (ho : opOk o = true) (hk : o.k = 9 \/ o.k = 8 \/ o.k = 7 \/ o.k = 3 \/ o.k = 2) (i : Nat) (hi : i < s.bs.length) (hat : kAt o.k = true -> o.at_ < s.bs[i].sz) (h8 : o.k = 8 -> s.bs[i].ep ≠ 1000) (page : Int) (hpg : page = if o.at_ < 16 then (pages s.bs[i].rs).getD o.at_.toNat 0 else -1) : ShInv (doKind s o i s.bs[i] page).1 := by
  obtain ⟨-,-,-,ha,hs7,hw2⟩ := op_parts ho;have hbo := h.oks _ (List.getElem_mem hi);obtain ⟨b1,b2,b3,b4,b5⟩ := book_parts hbo;unfold doKind;rcases hk with q | q | q | q | q
  · rw [if_pos q];exact h
  · rw [if_neg (by omega),if_pos q]
    refine h.put i hi { s.bs[i] with ep := s.bs[i].ep + 1 } (book_mk (b := { s.bs[i] with ep := s.bs[i].ep + 1 }) b1 b2 (by have := h8 q;simp only;omega) b4 b5) rfl s.cs s.ps h.cells (fun k hk => ?_) (fun k h1 h2 => cnt_out h i hi k h1 h2)
    show s.cs.getD k 0 = s.cs.getD k 0 - s.bs[i].cnt (k : Int) + s.bs[i].cnt (k : Int)
    omega
  · rw [if_neg (by omega),if_neg (by omega),if_pos q]
    have hv := hs7 (by rw [q];decide);obtain ⟨n,hn⟩ := Int.eq_ofNat_of_zero_le (show 0 <= o.va by omega);obtain ⟨c1,c2⟩ := cut_ok h i hi o.va.toNat (by omega);have p1 := cut_pages s.bs[i].rs b4 o.va.toNat (by omega)
    have hset : (cutBook s i o.va.toNat).bs = s.bs.set i { s.bs[i] with rs := mapOf (cutAt (pages s.bs[i].rs) (o.va.toNat : Nat)) } := by
      unfold cutBook;rw [bookAt_of s.bs i hi]
    have hbk : bookAt (cutBook s i o.va.toNat).bs i = { s.bs[i] with rs := mapOf (cutAt (pages s.bs[i].rs) (o.va.toNat : Nat)) } := by
      rw [hset,bookAt_of _ i (by simpa using hi),List.getElem_set_self]
    rw [hbk,hset,List.set_set];refine h.put i hi { s.bs[i] with rs := mapOf (cutAt (pages s.bs[i].rs) (o.va.toNat : Nat)),sz := o.va } (book_mk (b := { s.bs[i] with rs := mapOf (cutAt (pages s.bs[i].rs) (o.va.toNat : Nat)),sz := o.va }) b1 hv b3 p1.1 (by simp only;rw [show o.va = ((o.va.toNat : Nat) : Int) by omega];exact p1.2.2)) rfl _ _ c1 (fun k hk => ?_) (fun k h1 h2 => ?_)
    · rw [c2 k hk]
      show _ = s.cs.getD k 0 - ((pages s.bs[i].rs).count (k : Int) : Int) + ((pages (mapOf (cutAt (pages s.bs[i].rs) (o.va.toNat : Nat)))).count (k : Int) : Int)
      rw [p1.2.1,cutAt_count _ (pages_length _) _ (by omega)]
      omega
    · show ((pages (mapOf (cutAt (pages s.bs[i].rs) (o.va.toNat : Nat)))).count (k : Int) : Int) = 0
      rw [p1.2.1,cutAt_count _ (pages_length _) _ (by omega)];have := cnt_out h i hi k h1 h2;unfold Pb.cnt at this;have := (List.drop_sublist o.va.toNat (pages s.bs[i].rs)).count_le (k : Int)
      omega
  · rw [if_neg (by omega),if_neg (by omega),if_neg (by omega),if_pos q]
    have hlt := hat (by rw [q];decide);rw [if_pos (by omega)] at hpg
    split
    · rename_i h0
      obtain ⟨j,hj⟩ := Int.eq_ofNat_of_zero_le ha.1;have hjt : o.at_.toNat = j := by omega
      rw [hjt] at hpg ⊢;have hmem : page ∈ pages s.bs[i].rs := (mem_getD _ (pages_length _) _).2 ⟨j,by omega,hpg.symm⟩;obtain ⟨g1,g2⟩ := h.page i hi page hmem h0;obtain ⟨m,rfl⟩ := Int.eq_ofNat_of_zero_le h0;rw [Int.toNat_natCast] at g2;obtain ⟨c1,c2⟩ := dropOne_ok h.cells m (by omega) g2;have p1 := set_pages s.bs[i] hbo j (by omega) (-1) (by omega);refine h.put i hi { s.bs[i] with rs := mapOf ((pages s.bs[i].rs).set j (-1)) } (book_mk (b := { s.bs[i] with rs := mapOf ((pages s.bs[i].rs).set j (-1)) }) b1 b2 b3 p1.1 p1.2.2) rfl _ _ c1 (fun k hk => ?_) (fun k h1 h2 => ?_)
      · rw [c2]
        show _ = s.cs.getD k 0 - ((pages s.bs[i].rs).count (k : Int) : Int) + ((pages (mapOf ((pages s.bs[i].rs).set j (-1)))).count (k : Int) : Int)
        rw [p1.2.1,set_count _ j (by rw [pages_length];omega),<- hpg,if_neg (show ¬ (-1 : Int) = (k : Int) by omega)];by_cases e : m = k
        · subst e;rw [if_pos rfl,if_pos rfl];omega
        · rw [if_neg e,if_neg (by omega)];omega
      · show ((pages (mapOf ((pages s.bs[i].rs).set j (-1)))).count (k : Int) : Int) = 0
        rw [p1.2.1,set_count _ j (by rw [pages_length];omega),<- hpg,if_neg (show ¬ (-1 : Int) = (k : Int) by omega),if_neg (by omega)];have := cnt_out h i hi k h1 h2;unfold Pb.cnt at this
        omega
    · exact h
  · rw [if_neg (by omega),if_neg (by omega),if_neg (by omega),if_neg (by omega)]
    have hlt := hat (by rw [q];decide);have hv := hw2 q;rw [if_pos (by omega)] at hpg;obtain ⟨j,hj⟩ := Int.eq_ofNat_of_zero_le ha.1;have hjt : o.at_.toNat = j := by omega
    unfold doWrite;rw [hjt] at hpg ⊢
    split
    · rename_i h0
      obtain ⟨m,rfl⟩ := Int.eq_ofNat_of_zero_le h0.1;have hmem : (m : Int) ∈ pages s.bs[i].rs := (mem_getD _ (pages_length _) _).2 ⟨j,by omega,hpg.symm⟩;obtain ⟨g1,g2⟩ := h.page i hi _ hmem h0.1;rw [Int.toNat_natCast] at h0 g2 ⊢;exact ⟨h.n1,h.cells.same m (by omega) o.va hv (by omega),h.few,h.oks,h.srt,h.cnt,h.out⟩
    · rename_i h0
      split
      · rename_i hf
        obtain ⟨t1,t2⟩ := h.cells.took o.va hv hf;have htk : tookAt s.cs = (firstFree s.cs : Int) := by unfold tookAt;rw [if_pos hf]
        have hn24 := h.n1.2;have p1 := set_pages s.bs[i] hbo j (by omega) (tookAt s.cs) (by omega);have hfc : s.cs.getD (firstFree s.cs) 0 = 0 := firstFree_at s.cs hf;by_cases hp : 0 <= page
        · have hmem : page ∈ pages s.bs[i].rs := (mem_getD _ (pages_length _) _).2 ⟨j,by omega,hpg.symm⟩
          obtain ⟨g1,g2⟩ := h.page i hi page hmem hp;obtain ⟨m,rfl⟩ := Int.eq_ofNat_of_zero_le hp;rw [Int.toNat_natCast] at g2;have hmf : firstFree s.cs ≠ m := fun e => by rw [e] at hfc;omega
          have t3 := t2 m (by omega);rw [if_neg (by omega)] at t3;obtain ⟨c1,c2⟩ := dropOne_ok t1 m (by omega) (by omega);refine h.put i hi { s.bs[i] with rs := mapOf ((pages s.bs[i].rs).set j (tookAt s.cs)) } (book_mk (b := { s.bs[i] with rs := mapOf ((pages s.bs[i].rs).set j (tookAt s.cs)) }) b1 b2 b3 p1.1 p1.2.2) rfl _ _ c1 (fun k hk => ?_) (fun k h1 h2 => ?_)
          · rw [c2]
            show _ = s.cs.getD k 0 - ((pages s.bs[i].rs).count (k : Int) : Int) + ((pages (mapOf ((pages s.bs[i].rs).set j (tookAt s.cs)))).count (k : Int) : Int)
            rw [p1.2.1,set_count _ j (by rw [pages_length];omega),<- hpg,t2 k hk];by_cases e : m = k
            · subst e;rw [if_pos rfl,if_pos rfl];omega
            · rw [if_neg e,if_neg (show ¬ (m : Int) = (k : Int) by omega)];omega
          · show ((pages (mapOf ((pages s.bs[i].rs).set j (tookAt s.cs)))).count (k : Int) : Int) = 0
            rw [p1.2.1,set_count _ j (by rw [pages_length];omega),<- hpg,if_neg (by omega),if_neg (by omega)];have := cnt_out h i hi k h1 h2;unfold Pb.cnt at this
            omega
        · have hd : dropOne (tookC s.cs,tookP s.cs s.ps o.va) page = (tookC s.cs,tookP s.cs s.ps o.va) := by rw [dropOne,if_neg hp]
          rw [hd];refine h.put i hi { s.bs[i] with rs := mapOf ((pages s.bs[i].rs).set j (tookAt s.cs)) } (book_mk (b := { s.bs[i] with rs := mapOf ((pages s.bs[i].rs).set j (tookAt s.cs)) }) b1 b2 b3 p1.1 p1.2.2) rfl _ _ t1 (fun k hk => ?_) (fun k h1 h2 => ?_)
          · show _ = s.cs.getD k 0 - ((pages s.bs[i].rs).count (k : Int) : Int) + ((pages (mapOf ((pages s.bs[i].rs).set j (tookAt s.cs)))).count (k : Int) : Int)
            rw [p1.2.1,set_count _ j (by rw [pages_length];omega),<- hpg,t2 k hk,if_neg (show ¬ page = (k : Int) by omega)]
            omega
          · show ((pages (mapOf ((pages s.bs[i].rs).set j (tookAt s.cs)))).count (k : Int) : Int) = 0
            rw [p1.2.1,set_count _ j (by rw [pages_length];omega),<- hpg,if_neg (show ¬ page = (k : Int) by omega),if_neg (by omega)];have := cnt_out h i hi k h1 h2;unfold Pb.cnt at this
            omega
      · exact h
theorem do_inv {s : Sf} (h : ShInv s) (o : Oq) : ShInv (doOp s o).1 := by
  unfold doOp
  split
  · exact h
  rename_i ho
  have ho : opOk o = true := by simpa using ho
  split
  · exact h
  rename_i hr
  have hr : refused s.bs o = 0 := by simpa using hr
  obtain ⟨r1,r2,r3,r4,r5⟩ := refused_parts hr;obtain ⟨n1,n2,n3,n4,n5,n6⟩ := op_parts ho
  split
  · rename_i q
    obtain ⟨q1,q2⟩ := r2 q;have hf := h.few;refine h.insert ⟨o.nm,o.va,[],false,0⟩ (book_mk (b := ⟨o.nm,o.va,[],false,0⟩) n1 (n5 (by rw [q];decide)) (by simp only;omega) rfl rfl) q1 (by omega) s.cs h.cells (fun k hk => ?_) (fun k h1 h2 => cnt_empty _ _ _ _ _);rw [cnt_empty]
    omega
  rename_i q1
  have hfi := r1 q1;obtain ⟨i,hi,hfe,hnm⟩ := find_in s.bs o.nm (by omega);rw [hfe] at r4 r5 ⊢;rw [bookAt_of s.bs i hi] at r4 r5 ⊢;rw [Int.toNat_natCast]
  split
  · rename_i q6
    obtain ⟨c1,c2⟩ := cut_ok h i hi 0 (by omega);exact h.erase i hi _ _ c1 (fun k hk => by rw [c2 k hk,List.drop_zero];rfl)
  rename_i q6
  split
  · rename_i q5
    obtain ⟨t1,t2⟩ := r3 q5;obtain ⟨b1,b2,b3,b4,b5⟩ := book_parts (h.oks _ (List.getElem_mem hi));have hf := h.few;have ht2 := t2 q1
    have hpm : ∀ p ∈ pagesOf s.bs[i].rs,0 <= p /\ p ∈ pages s.bs[i].rs := fun p hp => by
      unfold pagesOf at hp;rw [if_pos b4,List.mem_filter,decide_eq_true_eq] at hp;exact ⟨hp.2,hp.1⟩
    obtain ⟨c1,c2⟩ := shareAll_ok (pagesOf s.bs[i].rs) h.cells (fun p hp => ⟨(hpm p hp).1,(h.page i hi p (hpm p hp).2 (hpm p hp).1).1⟩) (fun p hp => (h.page i hi p (hpm p hp).2 (hpm p hp).1).2);refine h.insert ⟨o.ot,s.bs[i].sz,s.bs[i].rs,decide (o.k = 4),0⟩ (book_mk (b := ⟨o.ot,s.bs[i].sz,s.bs[i].rs,decide (o.k = 4),0⟩) (n3 q5) b2 (by simp only;omega) b4 b5) t1 (by omega) _ c1 (fun k hk => ?_) (fun k h1 h2 => cnt_out h i hi k h1 h2);rw [c2 k hk,filter_count _ b4]
    rfl
  rename_i q5
  have hk : o.k = 9 \/ o.k = 8 \/ o.k = 7 \/ o.k = 3 \/ o.k = 2 := by
    have : ¬ (o.k = 4 \/ o.k = 5) := fun z => q5 (by unfold kOther;rcases z with z | z <;> simp [z])
    omega
  exact kind_inv h o ho hk i hi (r4 q1) r5 _ rfl
end Go.Proofs.YtcefcglonooelaaGreatDoor
