import Derived.Test.YtmnhnhjefocicaaGreatDoorChecked
import Derived.WalkKit
import Derived.WalkSpells
import Derived.Laws.Bits128
import Derived.IntWalk
import Derived.Handy
import Derived.Laws.IdiomStrings
import Derived.Laws.MakeOwn
import Derived.Test.YtmnhnhjefocicaaGreatDoorM01
import Derived.Test.YtmnhnhjefocicaaGreatDoorM02
namespace Go.Proofs.YtmnhnhjefocicaaGreatDoor
open Go.RowKit
set_option linter.unusedVariables false
set_option maxRecDepth 100000
theorem ret_bool {a b : Bool} (h : a = b) : Ending.returned (.bool a) = .returned (.bool b) := by rw [h]
theorem ret_int {k : IntKind} {a b : Int} (h : a = b) : Ending.returned (.int k a) = .returned (.int k b) := by rw [h]
theorem l1In_any (x lo hi : Int) (w : World) :
    Calls Tryz.prog 108 #[.int .i64 x,.int .i64 lo,.int .i64 hi] w fun e w' => e = .returned (.bool (decide (lo <= x) && decide (x <= hi))) /\ w' = w := by
  by_cases h : lo <= x
  · by_cases h2 : x <= hi
    all_goals
      go_enter Tryz.func108,Tryz.ntmps108
      go_wp2
      go_ret;exact ⟨by simp [h,h2],rfl⟩
  · go_enter Tryz.func108,Tryz.ntmps108
    go_wp2
    go_ret;exact ⟨ret_bool (by simp;omega),rfl⟩
set_option maxHeartbeats 400000 in
theorem specName_any (s : ByteArray) (w : World) (hs : s.size <= maxLen) :
    Calls Tryz.prog 109 #[.string s] w fun e w' => e = .returned (.bool (Nums.nameB s.data.toList)) /\ w' = w := by
  unfold maxLen at hs
  go_enter Tryz.func109,Tryz.ntmps109
  go_wp2
  go_loop [3] (fun i => ∃ k : Nat,k <= s.size /\ i = .int .i64 k /\ Nums.lowB (s.data.toList.take k) = true) (fun i => s.size - (intOf i).toNat)
  case atStart => exact ⟨0,Nat.zero_le _,rfl,rfl⟩
  case round =>
    obtain ⟨k,hk,rfl,hl⟩ := hrel;have HL : Hid (Nums.lowB (s.data.toList.take k) = true) := hl;clear hl;by_cases hlt : k < s.size
    · have hb := Nums.byte_lt s[k]
      by_cases h1 : 97 <= (s[k].toNat : Int)
      · by_cases h2 : (s[k].toNat : Int) <= 122
        · go_wp2
          go_round
          case rel => exact ⟨k + 1,by omega,by go_num,Nums.lowB_good s k hlt HL.out h1 h2⟩
          case measure => simp [intOf];omega
        · have hx := Nums.lowB_bad s k hlt (by omega)
          have HX : Hid (Nums.nameB s.data.toList = false) := by simp [Nums.nameB,hx,Hid]
          clear hx
          go_wp2
          go_ret;exact ⟨ret_bool HX.out.symm,rfl⟩
      · have hx := Nums.lowB_bad s k hlt (by omega)
        have HX : Hid (Nums.nameB s.data.toList = false) := by simp [Nums.nameB,hx,Hid]
        clear hx
        go_wp2
        go_ret;exact ⟨ret_bool HX.out.symm,rfl⟩
    · go_wp2_with (go_at_call 108;refine (l1In_any _ _ _ _).mono ?_;rintro e w' ⟨rfl,rfl⟩)
      go_ret;have hl := HL.out;rw [Nums.take_all s k hlt] at hl;exact ⟨ret_bool (by simp [Nums.nameB,hl]),rfl⟩
set_option maxHeartbeats 400000 in
theorem implName_any (s : ByteArray) (w : World) (hs : s.size <= maxLen) :
    Calls Tryz.prog 162 #[.string s] w fun e w' => e = .returned (.bool (Nums.nameB s.data.toList)) /\ w' = w := by
  unfold maxLen at hs;by_cases g1 : (1 : Int) <= (s.size : Int)
  · by_cases g2 : (s.size : Int) <= 4
    · go_enter Tryz.func162,Tryz.ntmps162
      go_wp2
      go_loop [3] (fun i => ∃ k : Nat,k <= s.size /\ i = .int .i64 k /\ Nums.lowB (s.data.toList.take k) = true) (fun i => s.size - (intOf i).toNat)
      case atStart => exact ⟨0,Nat.zero_le _,rfl,rfl⟩
      case round =>
        obtain ⟨k,hk,rfl,hl⟩ := hrel;have HL : Hid (Nums.lowB (s.data.toList.take k) = true) := hl;clear hl;by_cases hlt : k < s.size
        · have hb := Nums.byte_lt s[k]
          by_cases h1 : 97 <= (s[k].toNat : Int)
          · by_cases h2 : (s[k].toNat : Int) <= 122
            · go_wp2
              go_round
              case rel => exact ⟨k + 1,by omega,by go_num,Nums.lowB_good s k hlt HL.out h1 h2⟩
              case measure => simp [intOf];omega
            · have hx := Nums.lowB_bad s k hlt (by omega)
              have HX : Hid (Nums.nameB s.data.toList = false) := by simp [Nums.nameB,hx,Hid]
              clear hx
              go_wp2
              go_ret;exact ⟨ret_bool HX.out.symm,rfl⟩
          · have hx := Nums.lowB_bad s k hlt (by omega)
            have HX : Hid (Nums.nameB s.data.toList = false) := by simp [Nums.nameB,hx,Hid]
            clear hx
            go_wp2
            go_ret;exact ⟨ret_bool HX.out.symm,rfl⟩
        · go_wp2
          go_ret;have hl := HL.out;rw [Nums.take_all s k hlt] at hl;exact ⟨ret_bool (by simp [Nums.nameB,hl];omega),rfl⟩
    · have HX : Hid (Nums.nameB s.data.toList = false) := by simp [Nums.nameB,Hid];omega
      go_enter Tryz.func162,Tryz.ntmps162
      go_wp2
      go_ret;exact ⟨ret_bool HX.out.symm,rfl⟩
  · have HX : Hid (Nums.nameB s.data.toList = false) := by simp [Nums.nameB,Hid];omega
    go_enter Tryz.func162,Tryz.ntmps162
    go_wp2
    go_ret;exact ⟨ret_bool HX.out.symm,rfl⟩
theorem foldl_push : ∀ (l : List Int) (r : ByteArray),l.foldl (fun r n => r.push (UInt8.ofNat n.toNat)) r = ⟨r.data ++ (l.map fun n => UInt8.ofNat n.toNat).toArray⟩
  | [],r => by simp
  | b :: l,r => by
    simp only [List.map_cons,List.foldl_cons];rw [foldl_push l];simp [ByteArray.push]
theorem conv_cells (w : World) (a : Addr) (cap : Nat) (ns : List Int) (hc : ∀ j v,ns[j]? = some v -> w.cell? (a.add j) = some (.int .u8 v)) :
    (convert 22 9 (.slice (some a) ns.length cap)).run Tryz.prog w = .ok (.string ⟨(ns.map fun n => UInt8.ofNat n.toNat).toArray⟩) w := by
  rw [run_convert_bytes_string w _ _ 5 (some a) ns.length cap Tryz.underlying22 Tryz.underlying5 Tryz.underlying9]
  have hl := run_loadCells_list (P := Tryz.prog) w a (ns.map (Value.int .u8)) (fun j v hj => by
    rw [List.getElem?_map,Option.map_eq_some_iff] at hj;obtain ⟨x,hx,rfl⟩ := hj
    exact hc j x hx)
  rw [List.length_map] at hl;rw [run_bytesToString w a ns.length cap _ hl,foldl_push];have he0 : ByteArray.empty.data = #[] := rfl;rw [he0];simp
theorem conv_new (w : World) (ns : List Int) (more : List Value) (cap : Nat) :
    (convert 22 9 (.slice (some ⟨w.heap.size,0,none⟩) ns.length cap)).run Tryz.prog (w.alloc (.cells (ns.map (Value.int .u8) ++ more).toArray 5)) = .ok (.string ⟨(ns.map fun n => UInt8.ofNat n.toNat).toArray⟩) (w.alloc (.cells (ns.map (Value.int .u8) ++ more).toArray 5)) := by
  apply conv_cells
  intro j v hj;have hj' := (List.getElem?_eq_some_iff.1 hj).1;have := World.cell?_alloc_mark w (ns.map (Value.int .u8) ++ more).toArray 5 (0,0) j;have ha : (⟨w.heap.size,0,none⟩ : Addr).add j = ⟨w.heap.size,j,none⟩ := by unfold Addr.add;split <;> simp_all
  rw [ha,this];have e : ns[j] = v := by rw [List.getElem?_eq_getElem hj'] at hj;exact Option.some.inj hj
  simp [List.getElem?_append,hj',e]
theorem text_eq (x y : ByteArray) : (x.toList == y.toList) = decide (x = y) := by
  rw [Bool.eq_iff_iff,beq_iff_eq,decide_eq_true_iff,ByteArray.toList_eq,ByteArray.toList_eq]
  constructor
  · intro h;apply ByteArray.ext;exact Array.toList_inj.1 h
  · intro h;rw [h]
theorem take_more {α : Type} (xs ys : List α) (k : Nat) (h1 : k < xs.length) (h2 : k < ys.length) (h : xs.take k = ys.take k) (e : xs[k] = ys[k]) : xs.take (k + 1) = ys.take (k + 1) := by
  rw [List.take_succ_eq_append_getElem h1,List.take_succ_eq_append_getElem h2,h,e]
theorem ne_at {α : Type} (xs ys : List α) (k : Nat) (h1 : k < xs.length) (h2 : k < ys.length) (e : xs[k] ≠ ys[k]) : ¬ xs = ys := by
  intro h;subst h;exact e rfl
theorem all_taken {α : Type} (xs ys : List α) (k : Nat) (h1 : ¬ k < xs.length) (h2 : xs.length = ys.length) (h : xs.take k = ys.take k) : xs = ys := by
  rw [List.take_of_length_le (by omega),List.take_of_length_le (by omega)] at h;exact h
def digs : Nat -> Nat -> ByteArray -> ByteArray
  | 0,_,out => out
  | f + 1,k,out => if k = 0 then out else digs f (k / 10) (⟨#[48 + UInt8.ofNat (k % 10)]⟩ ++ out)
def markS (k : Int) : ByteArray := if k <= 0 then ⟨#[109,48]⟩ else ⟨#[109]⟩ ++ digs (k.toNat + 1) k.toNat ⟨#[]⟩
theorem digs_step (f k : Nat) (out : ByteArray) (h : 0 < k) : digs (f + 1) k out = digs f (k / 10) (⟨#[48 + UInt8.ofNat (k % 10)]⟩ ++ out) := by
  simp only [digs];rw [if_neg (by omega)]
theorem digs_end (f : Nat) (out : ByteArray) : digs (f + 1) 0 out = out := by simp [digs]
set_option maxHeartbeats 800000 in
theorem markText_any (k : Int) (w : World) (hk : -9223372036854775808 <= k /\ k <= 1099511627776) :
    Calls Tryz.prog 85 #[.int .i64 k] w fun e w' => e = .returned (.string (markS k)) /\ Below w.heap.size w w' := by
  by_cases h0 : k <= 0
  · have hv : markS k = ⟨#[109,48]⟩ := by unfold markS;rw [if_pos h0]
    rw [hv]
    go_enter Tryz.func85,Tryz.ntmps85
    go_wp2
    go_ret;exact ⟨rfl,Below.refl _ _⟩
  · have hv : markS k = ⟨#[109]⟩ ++ digs (k.toNat + 1) k.toNat ⟨#[]⟩ := by unfold markS;rw [if_neg h0]
    rw [hv];obtain ⟨K,rfl⟩ := Int.eq_ofNat_of_zero_le (show 0 <= k by omega);clear hv;have hcv : ∀ (w : World) (a : Int),(convert 22 9 (.slice (some ⟨w.heap.size,0,none⟩) 1 1)).run Tryz.prog (w.alloc (.cells #[.int .u8 a] 5)) = .ok (.string ⟨#[UInt8.ofNat a.toNat]⟩) (w.alloc (.cells #[.int .u8 a] 5)) := fun w a => conv_new w [a] [] 1
    rw [Int.toNat_natCast]
    go_enter Tryz.func85,Tryz.ntmps85
    go_wp2
    go_loopw [0,3] (fun a o wr => ∃ (m f : Nat) (out : ByteArray),a = .int .i64 m /\ o = .string out /\ m <= f /\ digs (K + 1) K ⟨#[]⟩ = digs (f + 1) m out /\ out.size + m <= K /\ Below w.heap.size w wr) (fun a _ _ => (intOf a).toNat)
    case atStart => exact ⟨K,K,⟨#[]⟩,rfl,rfl,Nat.le_refl _,rfl,by show 0 + K <= K;omega,Below.refl _ _⟩
    case round =>
      obtain ⟨m,f,out,rfl,rfl,hf,hd,ho,hb⟩ := hrel;have HD : Hid (digs (K + 1) K ⟨#[]⟩ = digs (f + 1) m out) := hd;clear hd;by_cases hpos : (0 : Int) < (m : Int)
      · obtain ⟨g,rfl⟩ : ∃ g,f = g + 1 := ⟨f - 1,by omega⟩
        have HN := digs_step (g + 1) m out (by omega);rw [<- HD.out] at HN;have HN' : Hid (digs (K + 1) K ⟨#[]⟩ = digs (g + 1) (m / 10) (⟨#[48 + UInt8.ofNat (m % 10)]⟩ ++ out)) := HN;have hb2 := hb.alloc hb.size (.cells #[.int .u8 (48 + (m : Int) % 10)] 5);clear HN
        go_wp2
        go_roundw
        case rel => exact ⟨m / 10,g,_,by go_num,rfl,by omega,HN'.out,by rw [ByteArray.size_append];show 1 + out.size + m / 10 <= K;omega,hb2⟩
        case measure => simp [intOf];omega
      · obtain rfl : m = 0 := by omega
        have hsz : out.size <= 1099511627776 := by omega
        go_wp2
        go_ret;rw [HD.out,digs_end];exact ⟨rfl,hb⟩
def runC (r : Int × Int × Int) : List Value := [.int .i64 r.1,.int .i64 r.2.1,.int .i64 r.2.2]
theorem runC_len (r : Int × Int × Int) : (runC r).length = 3 := rfl
theorem Tryz.infoRun : (Tryz.prog.info? 149).map (fun i => (i.zero,i.size,i.bytes)) = some (some (.agg #[.int .i64 0,.int .i64 0,.int .i64 0]),3,24) := by kernel_rfl
theorem three_cells {B : Nat} {w : World} {o : Option Addr} {rs : List (Int × Int × Int)} (hc : ∀ i x,rs[i]? = some x -> ∃ g off,o = some ⟨g,off,none⟩ /\ g < B /\ ∀ j u,(runC x)[j]? = some u -> w.cell? ⟨g,off + i * 3 + j,none⟩ = some u) (i : Nat) (hi : i < rs.length) :
    ∃ g off,o = some ⟨g,off,none⟩ /\ g < B /\ w.cell? ⟨g,off + i * 3,none⟩ = some (.int .i64 rs[i].1) /\ w.cell? ⟨g,off + i * 3 + 1,none⟩ = some (.int .i64 rs[i].2.1) /\ w.cell? ⟨g,off + i * 3 + 2,none⟩ = some (.int .i64 rs[i].2.2) := by
  obtain ⟨g,off,e,hg,hx⟩ := hc i rs[i] (List.getElem?_eq_getElem hi);exact ⟨g,off,e,hg,hx 0 _ rfl,hx 1 _ rfl,hx 2 _ rfl⟩
theorem szRuns_any (o : Option Addr) (n cap : Nat) (left : Int) (w : World) (h0 : 0 <= left) (hl : left <= 1048576) (hm : n <= maxLen) :
    Calls Tryz.prog 178 #[.slice o n cap,.int .i64 left] w fun e w' => e = .returned (.int .i64 (if left < n then -1 else left - n)) /\ w' = w := by
  unfold maxLen at hm;by_cases hbig : left < (n : Int)
  · rw [if_pos hbig]
    have h1 : left - (n : Int) < 0 := by omega
    go_enter Tryz.func178,Tryz.ntmps178
    go_wp2_with fail
    go_ret;exact ⟨rfl,rfl⟩
  · rw [if_neg hbig]
    have h1 : 0 <= left - (n : Int) := by omega
    go_enter Tryz.func178,Tryz.ntmps178
    go_wp2_with fail
    go_ret;exact ⟨rfl,rfl⟩
theorem toRun_any (f c p : Int) (w : World) :
    Calls Tryz.prog 204 #[.agg #[.int .i64 f,.int .i64 c,.int .i64 p]] w fun e w' => e = .returned (.agg #[.int .i64 f,.int .i64 c,.int .i64 p]) /\ Below w.heap.size w w' := by
  go_enter Tryz.func204,Tryz.ntmps204
  go_wp2
  exact bodyPost_ret (v := .agg #[.int .i64 f,.int .i64 c,.int .i64 p]) (by simp [results,Tryz.results204,go_sem]) rfl ⟨rfl,by go_grown⟩
theorem eqRun_any (f c p f' c' p' : Int) (w : World) :
    Calls Tryz.prog 216 #[.agg #[.int .i64 f,.int .i64 c,.int .i64 p],.agg #[.int .i64 f',.int .i64 c',.int .i64 p']] w fun e w' => e = .returned (.bool (decide ((f,c,p) = (f',c',p')))) /\ Below w.heap.size w w' := by
  by_cases e1 : f = f'
  · subst e1
    by_cases e2 : c = c'
    · subst e2
      by_cases e3 : p = p'
      · subst e3
        go_enter Tryz.func216,Tryz.ntmps216
        go_wp2
        go_ret;exact ⟨ret_bool (by simp),bw_alloc (bw_alloc (Below.refl _ _))⟩
      · have h1 : (p == p') = false := by simpa using e3
        have h2 : (p != p') = true := by simpa using e3
        go_enter Tryz.func216,Tryz.ntmps216
        go_wp2
        go_ret;exact ⟨ret_bool (by simp [e3]),bw_alloc (bw_alloc (Below.refl _ _))⟩
    · have h1 : (c == c') = false := by simpa using e2
      have h2 : (c != c') = true := by simpa using e2
      go_enter Tryz.func216,Tryz.ntmps216
      go_wp2
      go_ret;exact ⟨ret_bool (by simp [e2]),bw_alloc (bw_alloc (Below.refl _ _))⟩
  · have h1 : (f == f') = false := by simpa using e1
    have h2 : (f != f') = true := by simpa using e1
    go_enter Tryz.func216,Tryz.ntmps216
    go_wp2
    go_ret;exact ⟨ret_bool (by simp [e1]),bw_alloc (bw_alloc (Below.refl _ _))⟩
set_option maxHeartbeats 800000 in
theorem eqRuns_any (v1 v2 : Value) (xs ys : List (Int × Int × Int)) (w : World) (h1 : ReadsR 3 runC w.heap.size w v1 xs) (h2 : ReadsR 3 runC w.heap.size w v2 ys) :
    Calls Tryz.prog 188 #[v1,v2] w fun e w' => e = .returned (.bool (decide (xs = ys))) /\ Below w.heap.size w w' := by
  obtain ⟨o1,cap1,rfl,m1,c1,-⟩ := h1;obtain ⟨o2,cap2,rfl,m2,c2,-⟩ := h2;by_cases hlen : xs.length = ys.length
  · rw [<- hlen]
    have C1 : Hid _ := three_cells c1;have C2 : Hid _ := three_cells c2;have HL : Hid (xs.length = ys.length) := hlen;have hle : ys.length <= xs.length := by omega
    have hge : xs.length <= ys.length := by omega
    unfold maxLen at m1;clear c1 c2 m2 hlen
    go_enter Tryz.func188,Tryz.ntmps188
    go_wp2
    go_loopw [5] (fun i wr => ∃ k : Nat,k <= xs.length /\ i = .int .i64 k /\ xs.take k = ys.take k /\ Below w.heap.size w wr) (fun i _ => xs.length - (intOf i).toNat)
    case atStart => exact ⟨0,Nat.zero_le _,rfl,rfl,Below.refl _ _⟩
    case round =>
      obtain ⟨k,hk,rfl,htk,hb⟩ := hrel;have HT : Hid (xs.take k = ys.take k) := htk;clear htk;by_cases hlt : k < xs.length
      · have hlt2 : k < ys.length := by omega
        obtain ⟨g1,of1,rfl,q1,a0,a1,a2⟩ := C1.out k hlt;obtain ⟨g2,of2,rfl,q2,b0,b1,b2⟩ := C2.out k hlt2;have HE : Hid (xs[k] = ys[k] -> xs.take (k + 1) = ys.take (k + 1)) := fun e => take_more xs ys k hlt hlt2 HT.out e
        have HNE : Hid (xs[k] ≠ ys[k] -> ¬ xs = ys) := fun e => ne_at xs ys k hlt hlt2 e
        generalize xs[k] = x at a0 a1 a2 HE HNE;generalize ys[k] = y at b0 b1 b2 HE HNE;obtain ⟨f,c,p⟩ := x;obtain ⟨f',c',p'⟩ := y;simp only at a0 a1 a2 b0 b1 b2;have hne := BelowOf.any wr;have l1 : g1 < wr.heap.size := Nat.lt_of_lt_of_le q1 hb.size;have l2 : g2 < wr.heap.size := Nat.lt_of_lt_of_le q2 hb.size;have d0 := BelowOf.cell ((hb.cell (p := ⟨g1,of1 + k * 3,none⟩) q1).trans a0) l1;have d1 := BelowOf.cell ((hb.cell (p := ⟨g1,of1 + k * 3 + 1,none⟩) q1).trans a1) l1;have d2 := BelowOf.cell ((hb.cell (p := ⟨g1,of1 + k * 3 + 2,none⟩) q1).trans a2) l1;have f0 := BelowOf.cell ((hb.cell (p := ⟨g2,of2 + k * 3,none⟩) q2).trans b0) l2;have f1 := BelowOf.cell ((hb.cell (p := ⟨g2,of2 + k * 3 + 1,none⟩) q2).trans b1) l2;have f2 := BelowOf.cell ((hb.cell (p := ⟨g2,of2 + k * 3 + 2,none⟩) q2).trans b2) l2;have g1' : (0 : Int) <= (k : Int) := by omega
        have g2' : (k : Int) < (xs.length : Int) := by omega
        clear a0 a1 a2 b0 b1 b2 C1 C2
        obtain ⟨dd,hdd⟩ : ∃ dd,decide ((f,c,p) = (f',c',p')) = dd := ⟨_,rfl⟩
        have HD : Hid _ := hdd;have HEQ : ∀ q : BelowOf wr,Calls Tryz.prog 216 #[.agg #[.int .i64 f,.int .i64 c,.int .i64 p],.agg #[.int .i64 f',.int .i64 c',.int .i64 p']] q.w' fun e w' => e = .returned (.bool dd) /\ Below q.w'.heap.size q.w' w' := fun q => by have h := eqRun_any f c p f' c' p' q.w';rwa [hdd] at h
        clear hdd
        go_wp2_with fail
        refine wp_region_of (by kernel_rfl) (by kernel_rfl) ?_
        repeat (go_big_quiet_step ((first | (go_at_call 216;exact calls_of (HEQ _)) | rfl)))
        refine wpQuiet_nil ?_;intro w5 hw5;obtain ⟨⟨wx,cx⟩,hwx⟩ := hw5;have b5 : Below wr.heap.size wr w5 := by rw [hwx];exact cx
        have hb5 := hb.trans (b5.mono hb.size);clear hwx cx wx hne d0 d1 d2 f0 f1 f2 HEQ;cases dd
        · go_wp2_with fail
          go_ret;exact ⟨ret_bool (decide_eq_false (HNE.out (of_decide_eq_false HD.out))).symm,hb5⟩
        · have HT2 : Hid _ := HE.out (of_decide_eq_true HD.out)
          go_wp2_with fail
          go_roundw
          case rel => exact ⟨k + 1,by omega,by go_num,HT2.out,hb5⟩
          case measure => simp [intOf];omega
      · go_wp2
        go_ret;exact ⟨ret_bool (by simp [all_taken xs ys k hlt HL.out HT.out]),hb⟩
  · have hn : ((xs.length : Int) != (ys.length : Int)) = true := by rw [bne_iff_ne];omega
    have HX : Hid (decide (xs = ys) = false) := by rw [Hid,decide_eq_false_iff_not];intro e;rw [e] at hlen;exact hlen rfl
    unfold maxLen at m1 m2;clear hlen c1 c2
    go_enter Tryz.func188,Tryz.ntmps188
    go_wp2
    go_ret;exact ⟨ret_bool HX.out.symm,Below.refl _ _⟩
theorem made_runs (n : Nat) (hn : n <= 1048576) : ∃ M : Array Value,(∀ W : World,(Instr.makeSlice 94 (.int .i64 (n : Int)) (.int .i64 (n : Int))).run Tryz.prog W = .ok (.slice (some ⟨W.heap.size,0,none⟩) n n) (W.alloc (.cells M 149))) /\
    ∀ (W : World) (base : Nat),base <= W.heap.size -> (W.alloc (.cells M 149)).ownsRow base 149 3 (.slice (some ⟨W.heap.size,0,none⟩) n n) (List.replicate n ((0 : Int),(0 : Int),(0 : Int))).length ((List.replicate n ((0 : Int),(0 : Int),(0 : Int))).flatMap runC) := by
  obtain ⟨i0,hi,hz0,hz1,hz2⟩ := info_parts Tryz.infoRun;have e := toList_made (cs := runC) runC_len (by omega) ((0 : Int),(0 : Int),(0 : Int)) (Value.agg #[.int .i64 0,.int .i64 0,.int .i64 0]).cells rfl n;refine ⟨madeCells (Value.agg #[.int .i64 0,.int .i64 0,.int .i64 0]).cells (n * 3),fun W => ?_,fun W base hb => ?_⟩
  · have h := run_make (P := Tryz.prog) W 94 149 i0 (.agg #[.int .i64 0,.int .i64 0,.int .i64 0]) Tryz.underlying94 hi hz0 .i64 .i64 (n : Int) (n : Int) (by omega) (by omega) (by rw [hz2];omega) (by omega)
    rw [hz1,Int.toNat_natCast] at h
    simpa using h
  · have h := World.ownsRow_lit (base := base) (size := 3) (e := 149) W (madeCells (Value.agg #[.int .i64 0,.int .i64 0,.int .i64 0]).cells (n * 3)) n hb (by unfold maxLen;omega) (by rw [size_madeCells])
    rw [e] at h
    rwa [List.length_replicate]
theorem own_run {w : World} {base g n cap : Nat} {xs : List (Int × Int × Int)} (h : w.ownsRow base 149 3 (.slice (some ⟨g,0,none⟩) n cap) xs.length (xs.flatMap runC)) (i : Nat) (hi : i < xs.length) (f c p : Int) :
    (((w.setCell ⟨g,i * 3,none⟩ (.int .i64 f)).setCell ⟨g,i * 3 + 1,none⟩ (.int .i64 c)).setCell ⟨g,i * 3 + 2,none⟩ (.int .i64 p)).ownsRow base 149 3 (.slice (some ⟨g,0,none⟩) n cap) (xs.set i (f,c,p)).length ((xs.set i (f,c,p)).flatMap runC) := by
  have h1 := own_put runC_len h i 0 xs[i] (f,xs[i].2.1,xs[i].2.2) (.int .i64 f) (List.getElem?_eq_getElem hi) (by omega) rfl;have h2 := own_put runC_len h1 i 1 (f,xs[i].2.1,xs[i].2.2) (f,c,xs[i].2.2) (.int .i64 c) (by simp [hi]) (by omega) rfl;have h3 := own_put runC_len h2 i 2 (f,c,xs[i].2.2) (f,c,p) (.int .i64 p) (by simp [hi]) (by omega) rfl;rw [List.set_set,List.set_set] at h3;exact h3
theorem own_three {w : World} {base g n cap : Nat} {xs : List (Int × Int × Int)} (h : w.ownsRow base 149 3 (.slice (some ⟨g,0,none⟩) n cap) xs.length (xs.flatMap runC)) (i : Nat) (hi : i < xs.length) :
    (w.cell? ⟨g,i * 3,none⟩ = some (.int .i64 xs[i].1) /\ w.cell? ⟨g,i * 3 + 1,none⟩ = some (.int .i64 xs[i].2.1) /\ w.cell? ⟨g,i * 3 + 2,none⟩ = some (.int .i64 xs[i].2.2)) /\ w.frozen? ⟨g,i * 3,none⟩ = false /\ w.frozen? ⟨g,i * 3 + 1,none⟩ = false /\ w.frozen? ⟨g,i * 3 + 2,none⟩ = false := by
  obtain ⟨a0,b0⟩ := own_cell runC_len h i 0 _ (List.getElem?_eq_getElem hi) (by omega);obtain ⟨a1,b1⟩ := own_cell runC_len h i 1 _ (List.getElem?_eq_getElem hi) (by omega);obtain ⟨a2,b2⟩ := own_cell runC_len h i 2 _ (List.getElem?_eq_getElem hi) (by omega);exact ⟨⟨a0,a1,a2⟩,b0,b1,b2⟩
theorem set_step {α : Type} (ps zs : List α) (j : Nat) (hj : j < ps.length) (hz : zs.length = ps.length) : (ps.take j ++ zs.drop j).set j ps[j] = ps.take (j + 1) ++ zs.drop (j + 1) := by
  have hl : (ps.take j).length = j := by simp;omega
  rw [List.set_append_right _ _ (by omega),hl,Nat.sub_self,List.drop_eq_getElem_cons (show j < zs.length by omega),List.set_cons_zero,List.take_succ_eq_append_getElem hj,List.append_assoc]
  rfl
set_option maxHeartbeats 1600000 in
theorem toRuns_any (v : Value) (ps : List (Int × Int × Int)) (w : World) (hn : ps.length <= 1048576) (hp : ReadsR 3 runC w.heap.size w v ps) :
    Calls Tryz.prog 179 #[v] w fun e w' => e = .returned (.slice (some ⟨w.heap.size,0,none⟩) ps.length ps.length) /\ w'.ownsRow w.heap.size 149 3 (.slice (some ⟨w.heap.size,0,none⟩) ps.length ps.length) ps.length (ps.flatMap runC) /\ Below w.heap.size w w' := by
  obtain ⟨o,cap,rfl,hm,hcells,-⟩ := hp;have HC : Hid _ := three_cells hcells;obtain ⟨M,hmk,hown⟩ := made_runs ps.length hn;have own0 := hown w w.heap.size (Nat.le_refl _);have bd0 : Below w.heap.size w (w.alloc (.cells M 149)) := bw_alloc (Below.refl _ _);clear hown hcells hm
  go_enter Tryz.func179,Tryz.ntmps179
  go_wp2_with fail
  generalize w.alloc (.cells M 149) = W0 at own0 bd0 ⊢;generalize hzs : List.replicate ps.length ((0 : Int),(0 : Int),(0 : Int)) = zs at own0;have hzl : zs.length = ps.length := by rw [<- hzs];simp
  clear hmk hzs
  go_loopw [4] (fun i wr => ∃ j : Nat,j <= ps.length /\ i = .int .i64 j /\ wr.ownsRow w.heap.size 149 3 (.slice (some ⟨w.heap.size,0,none⟩) ps.length ps.length) (ps.take j ++ zs.drop j).length ((ps.take j ++ zs.drop j).flatMap runC) /\ Below w.heap.size w wr /\ w.heap.size < wr.heap.size) (fun i _ => ps.length - (intOf i).toNat)
  case atStart => exact ⟨0,Nat.zero_le _,rfl,by simpa using own0,bd0,(own0.lt _ rfl).2⟩
  case round =>
    obtain ⟨j,hj,rfl,own,hb,hsz⟩ := hrel;by_cases hlt : j < ps.length
    · obtain ⟨g,off,rfl,hg,a0,a1,a2⟩ := HC.out j hlt
      replace a0 := (hb.cell (p := ⟨g,off + j * 3,none⟩) hg).trans a0;replace a1 := (hb.cell (p := ⟨g,off + j * 3 + 1,none⟩) hg).trans a1;replace a2 := (hb.cell (p := ⟨g,off + j * 3 + 2,none⟩) hg).trans a2;have hl2 : (ps.take j ++ zs.drop j).length = ps.length := by simp;omega
      have hjl : j < (ps.take j ++ zs.drop j).length := by omega
      have HST := fun (W : World) (hW : W.ownsRow w.heap.size 149 3 (.slice (some ⟨w.heap.size,0,none⟩) ps.length ps.length) (ps.take j ++ zs.drop j).length ((ps.take j ++ zs.drop j).flatMap runC)) => own_run hW j hjl ps[j].1 ps[j].2.1 ps[j].2.2
      have hss := set_step ps zs j hlt hzl;rw [show (ps[j].1,ps[j].2.1,ps[j].2.2) = ps[j] from rfl,hss] at HST;have HST2 : Hid _ := HST;have hcc := fun (W : World) (hW : W.ownsRow w.heap.size 149 3 (.slice (some ⟨w.heap.size,0,none⟩) ps.length ps.length) (ps.take j ++ zs.drop j).length ((ps.take j ++ zs.drop j).flatMap runC)) => own_three hW j hjl
      have HCC : Hid _ := hcc;clear HST hss hcc hl2;generalize ps[j] = x at a0 a1 a2 HST2;obtain ⟨f,c,p⟩ := x;simp only at a0 a1 a2
      go_wp2_with fail
      refine (toRun_any f c p _).mono ?_;rintro e w5 ⟨rfl,b5⟩;have own5 := owns_below own b5;have HO5 : Hid _ := HST2.out w5 own5;obtain ⟨⟨t0,t1,t2⟩,u0,u1,u2⟩ := HCC.out w5 own5;have hb5 := hb.trans (b5.mono hb.size);have hbf : Below w.heap.size w (((w5.setCell ⟨w.heap.size,j * 3,none⟩ (.int .i64 f)).setCell ⟨w.heap.size,j * 3 + 1,none⟩ (.int .i64 c)).setCell ⟨w.heap.size,j * 3 + 2,none⟩ (.int .i64 p)) := bw_set (bw_set (bw_set hb5 (Nat.le_refl _) _) (Nat.le_refl _) _) (Nat.le_refl _) _;have hs5 : w.heap.size < w5.heap.size := Nat.lt_of_lt_of_le hsz b5.size;have HBF : Hid _ := And.intro hbf hs5;clear hbf own own5 b5 hb hb5 HCC HST2;generalize (ps.take j ++ zs.drop j)[j] = y at t0 t1 t2
      go_wp2_with fail
      go_roundw
      case rel => exact ⟨j + 1,by omega,by go_num,HO5.out,HBF.out.1,by simpa [World.size_setCell] using HBF.out.2⟩
      case measure => simp [intOf];omega
    · obtain rfl : j = ps.length := by omega
      rw [List.take_length,List.drop_of_length_le (by omega),List.append_nil] at own
      go_wp2_with fail
      go_ret;exact ⟨rfl,own,hb⟩
def marksR (k : Int) (n : Nat) : List (Int × Int × Int) := (List.range n).map fun i : Nat => (k + 3 * (i : Int),k + 3 * (i : Int) + 1,k + 3 * (i : Int) + 1 + 1)
theorem marksR_length (k : Int) (n : Nat) : (marksR k n).length = n := by simp [marksR]
theorem marksR_get (k : Int) (n j : Nat) (h : j < (marksR k n).length) : (marksR k n)[j] = (k + 3 * (j : Int),k + 3 * (j : Int) + 1,k + 3 * (j : Int) + 1 + 1) := by simp [marksR]
theorem marksR_set (k : Int) (xs : List (Int × Int × Int)) (j : Nat) (h : j < xs.length) : (marksR k j ++ xs.drop j).set j (k + 3 * (j : Int),k + 3 * (j : Int) + 1,k + 3 * (j : Int) + 1 + 1) = marksR k (j + 1) ++ xs.drop (j + 1) := by
  have hl : (marksR k j).length = j := marksR_length k j;have hs : marksR k (j + 1) = marksR k j ++ [(k + 3 * (j : Int),k + 3 * (j : Int) + 1,k + 3 * (j : Int) + 1 + 1)] := by simp [marksR,List.range_succ]
  rw [List.set_append_right _ _ (by omega),hl,Nat.sub_self,List.drop_eq_getElem_cons h,List.set_cons_zero,hs];exact (List.append_assoc _ [_] _).symm
set_option maxHeartbeats 1600000 in
theorem markedR_any (g cap n base : Nat) (k : Int) (xs : List (Int × Int × Int)) (w : World) (hk : 0 <= k) (hk2 : k <= 1073741824) (hx : xs.length = n) (hn : n <= 1048576) (own : w.ownsRow base 149 3 (.slice (some ⟨g,0,none⟩) n cap) xs.length (xs.flatMap runC)) :
    Calls Tryz.prog 138 #[.slice (some ⟨g,0,none⟩) n cap,.int .i64 k] w fun e w' => e = .returned (.int .i64 (k + 3 * n)) /\ w'.ownsRow base 149 3 (.slice (some ⟨g,0,none⟩) n cap) (marksR k n).length ((marksR k n).flatMap runC) /\ Upto g w w' := by
  have HX : Hid (xs.length = n) := hx;have hx1 : n <= xs.length := by omega
  clear hx
  go_enter Tryz.func138,Tryz.ntmps138
  go_wp2
  go_loopw [1,5] (fun q i wr => ∃ j : Nat,j <= n /\ i = .int .i64 j /\ q = .int .i64 (k + 3 * j) /\ wr.ownsRow base 149 3 (.slice (some ⟨g,0,none⟩) n cap) (marksR k j ++ xs.drop j).length ((marksR k j ++ xs.drop j).flatMap runC) /\ Upto g w wr) (fun _ i _ => n - (intOf i).toNat)
  case atStart => exact ⟨0,Nat.zero_le _,rfl,by simp,by simpa [marksR] using own,Upto.refl _ _⟩
  case round =>
    obtain ⟨j,hj,rfl,rfl,ow,u⟩ := hrel;clear own;by_cases hlt : j < n
    · have hjl : j < (marksR k j ++ xs.drop j).length := by rw [List.length_append,marksR_length,List.length_drop];omega
      obtain ⟨⟨t0,t1,t2⟩,u0,u1,u2⟩ := own_three ow j hjl;have HST := own_run ow j hjl (k + 3 * (j : Int)) (k + 3 * (j : Int) + 1) (k + 3 * (j : Int) + 1 + 1);rw [marksR_set k xs j (by omega)] at HST;have uf : Upto g w (((wr.setCell ⟨g,j * 3,none⟩ (.int .i64 (k + 3 * (j : Int)))).setCell ⟨g,j * 3 + 1,none⟩ (.int .i64 (k + 3 * (j : Int) + 1))).setCell ⟨g,j * 3 + 2,none⟩ (.int .i64 (k + 3 * (j : Int) + 1 + 1))) := ((u.setCell _ (.inl rfl) _).setCell _ (.inl rfl) _).setCell _ (.inl rfl) _;have HO : Hid _ := And.intro HST uf;generalize (marksR k j ++ xs.drop j)[j] = y at t0 t1 t2;clear HST uf ow u
      go_wp2_with fail
      go_roundw
      case rel => exact ⟨j + 1,by omega,by go_num,by go_num,HO.out.1,HO.out.2⟩
      case measure => simp [intOf];omega
    · obtain rfl : j = n := by omega
      rw [List.drop_of_length_le (by have := HX.out;omega),List.append_nil] at ow
      go_wp2_with fail
      go_ret;exact ⟨rfl,ow,u⟩
theorem markedRRow_any (v : Value) (base : Nat) (k : Int) (xs : List (Int × Int × Int)) (w : World) (hk : 0 <= k) (hk2 : k <= 1073741824) (hn : xs.length <= 1048576) (hbase : base <= w.heap.size) (own : w.ownsRow base 149 3 v xs.length (xs.flatMap runC)) :
    Calls Tryz.prog 138 #[v,.int .i64 k] w fun e w' => e = .returned (.int .i64 (k + 3 * xs.length)) /\ w'.ownsRow base 149 3 v (marksR k xs.length).length ((marksR k xs.length).flatMap runC) /\ Below base w w' /\ w.heap.size <= w'.heap.size /\ ∀ i,i < w.heap.size -> v.ownBlock ≠ some i -> w'.heap[i]? = w.heap[i]? := by
  rcases own.2 with ⟨rfl,h0⟩ | ⟨g,cap,cur,rfl,hg,_⟩
  · have hx : xs = [] := List.length_eq_zero_iff.1 h0
    subst hx
    go_enter Tryz.func138,Tryz.ntmps138
    go_wp2
    refine wp_loop_rounds 1 ?_;rw [rounds_succ]
    go_wp2
    go_ret;exact ⟨ret_int (by simp),World.ownsRow_nil _ _ _ _,Below.refl _ _,Nat.le_refl _,fun _ _ _ => rfl⟩
  · refine (markedR_any g cap xs.length base k xs w hk hk2 rfl hn own).mono ?_
    rintro e w' ⟨he,ho,hu⟩;exact ⟨he,ho,hu.toBelow hbase hg,hu.size,fun i hi hn => hu.block i hi (fun e => hn (by rw [e];rfl))⟩
set_option maxHeartbeats 1600000 in
theorem heldR_any (v : Value) (n : Nat) (k : Int) (w : World) (hk : 0 <= k) (hk2 : k <= 1073741824) (hn : n <= 1048576) (hr : ReadsR 3 runC w.heap.size w v (marksR k n)) :
    Calls Tryz.prog 139 #[v,.int .i64 k] w fun e w' => e = .returned (.int .i64 (k + 3 * n)) /\ Below w.heap.size w w' := by
  obtain ⟨o,cap,rfl,hm,hc,-⟩ := hr;have HC : Hid _ := three_cells hc;rw [marksR_length] at hm ⊢;clear hc hm
  go_enter Tryz.func139,Tryz.ntmps139
  go_wp2
  go_loopw [1,5] (fun q i wr => ∃ j : Nat,j <= n /\ i = .int .i64 j /\ q = .int .i64 (k + 3 * j) /\ wr = w) (fun _ i _ => n - (intOf i).toNat)
  case atStart => exact ⟨0,Nat.zero_le _,rfl,by simp,rfl⟩
  case round =>
    obtain ⟨j,hj,rfl,rfl,rfl⟩ := hrel;by_cases hlt : j < n
    · have hjl : j < (marksR k n).length := by rw [marksR_length];exact hlt
      obtain ⟨g,off,rfl,hg,a0,a1,a2⟩ := HC.out j hjl;rw [marksR_get k n j hjl] at a0 a1 a2;simp only at a0 a1 a2;clear HC hjl
      go_wp2
      go_roundw
      case rel => exact ⟨j + 1,by omega,by go_num,by go_num,by trivial⟩
      case measure => simp [intOf];omega
    · obtain rfl : j = n := by omega
      go_wp2_with fail
      go_ret;exact ⟨rfl,Below.refl _ _⟩
end Go.Proofs.YtmnhnhjefocicaaGreatDoor
