import Derived.Deep.RegionHeld3
import Derived.Laws.MakeOwn
import Derived.Laws.StructEq
import Derived.BigQuiet
import Derived.Deep.DeepCutAuto
import Derived.Test.YtfkkapdofjhgpaaGreatDoorM01
import Derived.Test.YtfkkapdofjhgpaaGreatDoorM02
import Derived.Test.YtfkkapdofjhgpaaGreatDoorM03
import Derived.Test.YtfkkapdofjhgpaaGreatDoorM04
import Derived.Test.YtfkkapdofjhgpaaGreatDoorM05
import Derived.Test.YtfkkapdofjhgpaaGreatDoorM07
import Derived.Test.YtfkkapdofjhgpaaGreatDoorM08
import Derived.Test.YtfkkapdofjhgpaaGreatDoorM09
import Derived.Test.YtfkkapdofjhgpaaGreatDoorM11
import Derived.Test.YtfkkapdofjhgpaaGreatDoorM17
set_option maxHeartbeats 12800000
namespace Go.Proofs.YtfkkapdofjhgpaaGreatDoor
open Go.ChangeShapes Go.WideShapes Go.ChangeAt Go.RowKit Go.Joins
set_option linter.unusedVariables false
set_option maxRecDepth 100000
theorem zez {a : Int} (h : (Lit.int .i64 a).wf=true) : I64 a:=by simpa [I64,Lit.wf,IntKind.min,IntKind.max,IntKind.signed,IntKind.bits] using h
theorem zyf {α : Type} {cs : List α} (h : cs.length=6) : ∃ c0 c1 c2 c3 c4 c5,cs = [c0,c1,c2,c3,c4,c5]:=by
  match cs,h with
  | [c0,c1,c2,c3,c4,c5],_=>exact ⟨c0,c1,c2,c3,c4,c5,rfl⟩
theorem zvu (k : Int) (nm ot : ByteArray) (at_ va ep left : Int) (w : World) (hn : nm.size<=maxLen) (ho : ot.size<=maxLen) (h0 : 0<=left) (hl : left<=1048576) :
    Calls Tryz.prog 111 #[.agg #[.int .i64 k,.string nm,.string ot,.int .i64 at_,.int .i64 va,.int .i64 ep],.int .i64 left] w fun e w'=>∃ q : Int,e = .returned (.int .i64 q)/\(q = -1\/(0<=q/\q<=left/\nm.size<=1048576/\ot.size<=1048576))/\Below w.heap.size w w':=by
  obtain ⟨W0,hW0,k0,d0,z0⟩:=zb4 w #[.int .i64 k,.string nm,.string ot,.int .i64 at_,.int .i64 va,.int .i64 ep] 86;have HD : Hid (Below w.heap.size w (w.alloc (.cells #[.int .i64 k,.string nm,.string ot,.int .i64 at_,.int .i64 va,.int .i64 ep] 86))):=za3 (Below.refl _ _);clear hW0 k0 d0 z0;unfold maxLen at hn ho;by_cases hb : left < (nm.size : Int)
  · have h1 : left - (nm.size : Int) < 0:=by omega
    go_enter Tryz.func111,Tryz.ntmps111
    go_wp2_with fail
    go_ret;exact ⟨-1,rfl,.inl rfl,HD.out⟩
  · have hl1 : 0<=left - (nm.size : Int):=by omega
    by_cases hb2 : left - (nm.size : Int) < (ot.size : Int)
    · have h1 : left - (nm.size : Int) - (ot.size : Int) < 0:=by omega
      go_enter Tryz.func111,Tryz.ntmps111
      go_wp2_with fail
      go_ret;exact ⟨-1,rfl,.inl rfl,HD.out⟩
    · have h1 : 0<=left - (nm.size : Int) - (ot.size : Int):=by omega
      go_enter Tryz.func111,Tryz.ntmps111
      go_wp2_with fail
      go_ret;exact ⟨_,rfl,.inr ⟨h1,by omega,by omega,by omega⟩,HD.out⟩
theorem zvv (k : Int) (nm ot : ByteArray) (at_ va ep : Int) (w : World) :
    Calls Tryz.prog 112 #[.agg #[.int .i64 k,.string nm,.string ot,.int .i64 at_,.int .i64 va,.int .i64 ep]] w fun e w'=>e = .returned (.agg #[.int .i64 k,.string nm,.string ot,.int .i64 at_,.int .i64 va,.int .i64 ep])/\Below w.heap.size w w':=by
  go_enter Tryz.func112,Tryz.ntmps112
  go_wp2_with fail
  exact bodyPost_ret (v:=.agg #[.int .i64 k,.string nm,.string ot,.int .i64 at_,.int .i64 va,.int .i64 ep]) (by simp [results,Tryz.results112,go_sem]) rfl ⟨rfl,by go_grown⟩
theorem ztl (k : Int) (nm ot : ByteArray) (at_ va ep : Int) (w : World) :
    Calls Tryz.prog 153 #[.agg #[.int .i64 k,.string nm,.string ot,.int .i64 at_,.int .i64 va,.int .i64 ep],.agg #[.int .i64 k,.string nm,.string ot,.int .i64 at_,.int .i64 va,.int .i64 ep]] w fun e w'=>e = .returned (.bool true)/\Below w.heap.size w w':=by
  go_enter Tryz.func153,Tryz.ntmps153
  go_wp2_with fail
  go_ret;exact ⟨rfl,za3 (za3 (Below.refl _ _))⟩
end Go.Proofs.YtfkkapdofjhgpaaGreatDoor
namespace Go.Proofs.YtfkkapdofjhgpaaGreatDoor
open Go.RowKit
set_option linter.unusedVariables false
set_option maxRecDepth 100000
def zdm (r : Int × Int) : List Value:=[.int .i64 r.1,.int .i64 r.2]
theorem zdy (r : Int × Int) : (zdm r).length=2:=rfl
theorem Tryz.infoRep : (Tryz.prog.info? 43).map (fun i=>(i.zero,i.size,i.bytes))=some (some (.agg #[.int .i64 0,.int .i64 0]),2,16):=by kernel_rfl
theorem zja {B : Nat} {w : World} {o : Option Addr} {rs : List (Int × Int)} (hc : ∀ i x,rs[i]? = some x->∃ g off,o=some ⟨g,off,none⟩/\g < B/\∀ j u,(zdm x)[j]? = some u->w.cell? ⟨g,off+i * 2+j,none⟩=some u) (i : Nat) (hi : i < rs.length) :
    ∃ g off,o=some ⟨g,off,none⟩/\g < B/\w.cell? ⟨g,off+i * 2,none⟩=some (.int .i64 rs[i].1)/\w.cell? ⟨g,off+i * 2+1,none⟩=some (.int .i64 rs[i].2):=by
  obtain ⟨g,off,e,hg,hx⟩:=hc i rs[i] (List.getElem?_eq_getElem hi);exact ⟨g,off,e,hg,hx 0 _ rfl,hx 1 _ rfl⟩
theorem zpi (f c f' c' : Int) (w : World) :
    Calls Tryz.prog 49 #[.agg #[.int .i64 f,.int .i64 c],.agg #[.int .i64 f',.int .i64 c']] w fun e w'=>e = .returned (.bool (decide ((f,c)=(f',c'))))/\Below w.heap.size w w':=by
  by_cases e1 : f=f'
  · subst e1
    by_cases e2 : c=c'
    · subst e2
      go_enter Tryz.func49,Tryz.ntmps49
      go_wp2
      go_ret;exact ⟨za6 (by simp),za3 (za3 (Below.refl _ _))⟩
    · have h1 : (c == c')=false:=by simpa using e2
      have h2 : (c != c')=true:=by simpa using e2
      go_enter Tryz.func49,Tryz.ntmps49
      go_wp2
      go_ret;exact ⟨za6 (by simp [e2]),za3 (za3 (Below.refl _ _))⟩
  · have h1 : (f == f')=false:=by simpa using e1
    have h2 : (f != f')=true:=by simpa using e1
    go_enter Tryz.func49,Tryz.ntmps49
    go_wp2
    go_ret;exact ⟨za6 (by simp [e1]),za3 (za3 (Below.refl _ _))⟩
theorem zri (v1 v2 : Value) (xs ys : List (Int × Int)) (w : World) (h1 : ReadsR 2 zdm w.heap.size w v1 xs) (h2 : ReadsR 2 zdm w.heap.size w v2 ys) :
    Calls Tryz.prog 96 #[v1,v2] w fun e w'=>e = .returned (.bool (decide (xs=ys)))/\Below w.heap.size w w':=by
  obtain ⟨o1,cap1,rfl,m1,c1,-⟩:=h1;obtain ⟨o2,cap2,rfl,m2,c2,-⟩:=h2;by_cases hlen : xs.length=ys.length
  · rw [<- hlen]
    have C1 : Hid _:=zja c1;have C2 : Hid _:=zja c2;have HL : Hid (xs.length=ys.length):=hlen;have hle : ys.length<=xs.length:=by omega
    have hge : xs.length<=ys.length:=by omega
    unfold maxLen at m1;clear c1 c2 m2 hlen
    go_enter Tryz.func96,Tryz.ntmps96
    go_wp2
    go_loopw [5] (fun i wr=>∃ k : Nat,k<=xs.length/\i = .int .i64 k/\xs.take k=ys.take k/\Below w.heap.size w wr) (fun i _=>xs.length - (intOf i).toNat)
    case atStart=>exact ⟨0,Nat.zero_le _,rfl,rfl,Below.refl _ _⟩
    case round =>
      obtain ⟨k,hk,rfl,htk,hb⟩:=hrel;have HT : Hid (xs.take k=ys.take k):=htk;clear htk;by_cases hlt : k < xs.length
      · have hlt2 : k < ys.length:=by omega
        obtain ⟨g1,of1,rfl,q1,a0,a1⟩:=C1.out k hlt;obtain ⟨g2,of2,rfl,q2,b0,b1⟩:=C2.out k hlt2;have HE : Hid (xs[k]=ys[k]->xs.take (k+1)=ys.take (k+1)):=fun e=>ziv xs ys k hlt hlt2 HT.out e
        have HNE : Hid (xs[k] ≠ ys[k]->¬ xs=ys):=fun e=>zv0 xs ys k hlt hlt2 e
        generalize xs[k]=x at a0 a1 HE HNE;generalize ys[k]=y at b0 b1 HE HNE;obtain ⟨f,c⟩:=x;obtain ⟨f',c'⟩:=y;simp only at a0 a1 b0 b1;have hne:=BelowOf.any wr;have l1 : g1 < wr.heap.size:=Nat.lt_of_lt_of_le q1 hb.size;have l2 : g2 < wr.heap.size:=Nat.lt_of_lt_of_le q2 hb.size;have d0:=BelowOf.cell ((hb.cell (p:=⟨g1,of1+k * 2,none⟩) q1).trans a0) l1;have d1:=BelowOf.cell ((hb.cell (p:=⟨g1,of1+k * 2+1,none⟩) q1).trans a1) l1;have f0:=BelowOf.cell ((hb.cell (p:=⟨g2,of2+k * 2,none⟩) q2).trans b0) l2;have f1:=BelowOf.cell ((hb.cell (p:=⟨g2,of2+k * 2+1,none⟩) q2).trans b1) l2;have g1' : (0 : Int)<=(k : Int):=by omega
        have g2' : (k : Int) < (xs.length : Int):=by omega
        clear a0 a1 b0 b1 C1 C2
        obtain ⟨dd,hdd⟩ : ∃ dd,decide ((f,c)=(f',c'))=dd:=⟨_,rfl⟩
        have HD : Hid _:=hdd;have HEQ : ∀ q : BelowOf wr,Calls Tryz.prog 49 #[.agg #[.int .i64 f,.int .i64 c],.agg #[.int .i64 f',.int .i64 c']] q.w' fun e w'=>e = .returned (.bool dd)/\Below q.w'.heap.size q.w' w':=fun q=>by have h:=zpi f c f' c' q.w';rwa [hdd] at h
        clear hdd
        go_wp2_with fail
        refine zad (by kernel_rfl) (by kernel_rfl) ?_
        repeat (go_big_quiet_step ((first | (go_at_call 49;exact zb1 (HEQ _)) | rfl)))
        refine wpQuiet_nil ?_;intro w5 hw5;obtain ⟨⟨wx,cx⟩,hwx⟩:=hw5;have b5 : Below wr.heap.size wr w5:=by rw [hwx];exact cx
        have hb5:=hb.trans (b5.mono hb.size);clear hwx cx wx hne d0 d1 f0 f1 HEQ;cases dd
        · go_wp2_with fail
          go_ret;exact ⟨za6 (decide_eq_false (HNE.out (of_decide_eq_false HD.out))).symm,hb5⟩
        · have HT2 : Hid _:=HE.out (of_decide_eq_true HD.out)
          go_wp2_with fail
          go_roundw
          case rel=>exact ⟨k+1,by omega,by go_num,HT2.out,hb5⟩
          case measure=>simp [intOf];omega
      · go_wp2
        go_ret;exact ⟨za6 (by simp [ziw xs ys k hlt HL.out HT.out]),hb⟩
  · have hn : ((xs.length : Int) != (ys.length : Int))=true:=by rw [bne_iff_ne];omega
    have HX : Hid (decide (xs=ys)=false):=by rw [Hid,decide_eq_false_iff_not];intro e;rw [e] at hlen;exact hlen rfl
    unfold maxLen at m1 m2;clear hlen c1 c2
    go_enter Tryz.func96,Tryz.ntmps96
    go_wp2
    go_ret;exact ⟨za6 HX.out.symm,Below.refl _ _⟩
theorem ztm (n : Nat) (hn : n<=1048576) : ∃ M : Array Value,(∀ W : World,(Instr.makeSlice 31 (.int .i64 (n : Int)) (.int .i64 (n : Int))).run Tryz.prog W = .ok (.slice (some ⟨W.heap.size,0,none⟩) n n) (W.alloc (.cells M 43))) /\
    ∀ (W : World) (base : Nat),base<=W.heap.size->(W.alloc (.cells M 43)).ownsRow base 43 2 (.slice (some ⟨W.heap.size,0,none⟩) n n) (List.replicate n ((0 : Int),(0 : Int))).length ((List.replicate n ((0 : Int),(0 : Int))).flatMap zdm):=by
  obtain ⟨i0,hi,hz0,hz1,hz2⟩:=info_parts Tryz.infoRep;have e:=zjk (cs:=zdm) zdy (by omega) ((0 : Int),(0 : Int)) (Value.agg #[.int .i64 0,.int .i64 0]).cells rfl n;refine ⟨madeCells (Value.agg #[.int .i64 0,.int .i64 0]).cells (n * 2),fun W=>?_,fun W base hb=>?_⟩
  · have h:=run_make (P:=Tryz.prog) W 31 43 i0 (.agg #[.int .i64 0,.int .i64 0]) Tryz.underlying31 hi hz0 .i64 .i64 (n : Int) (n : Int) (by omega) (by omega) (by rw [hz2];omega) (by omega)
    rw [hz1,Int.toNat_natCast] at h
    simpa using h
  · have h:=World.ownsRow_lit (base:=base) (size:=2) (e:=43) W (madeCells (Value.agg #[.int .i64 0,.int .i64 0]).cells (n * 2)) n hb (by unfold maxLen;omega) (by rw [size_madeCells])
    rw [e] at h
    rwa [List.length_replicate]
theorem zsf {w : World} {base g n cap : Nat} {xs : List (Int × Int)} (h : w.ownsRow base 43 2 (.slice (some ⟨g,0,none⟩) n cap) xs.length (xs.flatMap zdm)) (i : Nat) (hi : i < xs.length) (f c : Int) :
    ((w.setCell ⟨g,i * 2,none⟩ (.int .i64 f)).setCell ⟨g,i * 2+1,none⟩ (.int .i64 c)).ownsRow base 43 2 (.slice (some ⟨g,0,none⟩) n cap) (xs.set i (f,c)).length ((xs.set i (f,c)).flatMap zdm):=by
  have h1:=zb2 zdy h i 0 xs[i] (f,xs[i].2) (.int .i64 f) (List.getElem?_eq_getElem hi) (by omega) rfl;have h2:=zb2 zdy h1 i 1 (f,xs[i].2) (f,c) (.int .i64 c) (by simp [hi]) (by omega) rfl;rw [List.set_set] at h2;exact h2
theorem zsg {w : World} {base g n cap : Nat} {xs : List (Int × Int)} (h : w.ownsRow base 43 2 (.slice (some ⟨g,0,none⟩) n cap) xs.length (xs.flatMap zdm)) (i : Nat) (hi : i < xs.length) :
    (w.cell? ⟨g,i * 2,none⟩=some (.int .i64 xs[i].1)/\w.cell? ⟨g,i * 2+1,none⟩=some (.int .i64 xs[i].2))/\w.frozen? ⟨g,i * 2,none⟩=false/\w.frozen? ⟨g,i * 2+1,none⟩=false:=by
  obtain ⟨a0,b0⟩:=zbn zdy h i 0 _ (List.getElem?_eq_getElem hi) (by omega);obtain ⟨a1,b1⟩:=zbn zdy h i 1 _ (List.getElem?_eq_getElem hi) (by omega);exact ⟨⟨a0,a1⟩,b0,b1⟩
def zc6 (k : Int) (n : Nat) : List (Int × Int):=(List.range n).map fun i : Nat=>(k+2 * (i : Int),k+2 * (i : Int)+1)
theorem marksP_length (k : Int) (n : Nat) : (zc6 k n).length=n:=by simp [zc6]
theorem zrj (k : Int) (n j : Nat) (h : j < (zc6 k n).length) : (zc6 k n)[j]=(k+2 * (j : Int),k+2 * (j : Int)+1):=by simp [zc6]
theorem zrk (k : Int) (xs : List (Int × Int)) (j : Nat) (h : j < xs.length) : (zc6 k j ++ xs.drop j).set j (k+2 * (j : Int),k+2 * (j : Int)+1)=zc6 k (j+1) ++ xs.drop (j+1):=by
  have hl : (zc6 k j).length=j:=marksP_length k j;have hs : zc6 k (j+1)=zc6 k j ++ [(k+2 * (j : Int),k+2 * (j : Int)+1)]:=by simp [zc6,List.range_succ]
  rw [List.set_append_right _ _ (by omega),hl,Nat.sub_self,List.drop_eq_getElem_cons h,List.set_cons_zero,hs];exact (List.append_assoc _ [_] _).symm
theorem zpj (g cap n base : Nat) (k : Int) (xs : List (Int × Int)) (w : World) (hk : 0<=k) (hk2 : k<=1073741824) (hx : xs.length=n) (hn : n<=1048576) (own : w.ownsRow base 43 2 (.slice (some ⟨g,0,none⟩) n cap) xs.length (xs.flatMap zdm)) :
    Calls Tryz.prog 102 #[.slice (some ⟨g,0,none⟩) n cap,.int .i64 k] w fun e w'=>e = .returned (.int .i64 (k+2 * n))/\w'.ownsRow base 43 2 (.slice (some ⟨g,0,none⟩) n cap) (zc6 k n).length ((zc6 k n).flatMap zdm)/\Upto g w w':=by
  have HX : Hid (xs.length=n):=hx;have hx1 : n<=xs.length:=by omega
  clear hx
  go_enter Tryz.func102,Tryz.ntmps102
  go_wp2
  go_loopw [1,5] (fun q i wr=>∃ j : Nat,j<=n/\i = .int .i64 j/\q = .int .i64 (k+2 * j)/\wr.ownsRow base 43 2 (.slice (some ⟨g,0,none⟩) n cap) (zc6 k j ++ xs.drop j).length ((zc6 k j ++ xs.drop j).flatMap zdm)/\Upto g w wr) (fun _ i _=>n - (intOf i).toNat)
  case atStart=>exact ⟨0,Nat.zero_le _,rfl,by simp,by simpa [zc6] using own,Upto.refl _ _⟩
  case round =>
    obtain ⟨j,hj,rfl,rfl,ow,u⟩:=hrel;clear own;by_cases hlt : j < n
    · have hjl : j < (zc6 k j ++ xs.drop j).length:=by rw [List.length_append,marksP_length,List.length_drop];omega
      obtain ⟨⟨t0,t1⟩,u0,u1⟩:=zsg ow j hjl;have HST:=zsf ow j hjl (k+2 * (j : Int)) (k+2 * (j : Int)+1);rw [zrk k xs j (by omega)] at HST;have uf : Upto g w ((wr.setCell ⟨g,j * 2,none⟩ (.int .i64 (k+2 * (j : Int)))).setCell ⟨g,j * 2+1,none⟩ (.int .i64 (k+2 * (j : Int)+1))):=(u.setCell _ (.inl rfl) _).setCell _ (.inl rfl) _;have HO : Hid _:=And.intro HST uf;generalize (zc6 k j ++ xs.drop j)[j]=y at t0 t1;clear HST uf ow u
      go_wp2_with fail
      go_roundw
      case rel=>exact ⟨j+1,by omega,by go_num,by go_num,HO.out.1,HO.out.2⟩
      case measure=>simp [intOf];omega
    · obtain rfl : j=n:=by omega
      rw [List.drop_of_length_le (by have:=HX.out;omega),List.append_nil] at ow
      go_wp2_with fail
      go_ret;exact ⟨rfl,ow,u⟩
theorem zli (v : Value) (base : Nat) (k : Int) (xs : List (Int × Int)) (w : World) (hk : 0<=k) (hk2 : k<=1073741824) (hn : xs.length<=1048576) (hbase : base<=w.heap.size) (own : w.ownsRow base 43 2 v xs.length (xs.flatMap zdm)) :
    Calls Tryz.prog 102 #[v,.int .i64 k] w fun e w'=>e = .returned (.int .i64 (k+2 * xs.length))/\w'.ownsRow base 43 2 v (zc6 k xs.length).length ((zc6 k xs.length).flatMap zdm)/\Below base w w'/\w.heap.size<=w'.heap.size/\∀ i,i < w.heap.size->v.ownBlock ≠ some i->w'.heap[i]? = w.heap[i]?:=by
  rcases own.2 with ⟨rfl,h0⟩ | ⟨g,cap,cur,rfl,hg,_⟩
  · have hx : xs = []:=List.length_eq_zero_iff.1 h0
    subst hx
    go_enter Tryz.func102,Tryz.ntmps102
    go_wp2
    refine wp_loop_rounds 1 ?_;rw [rounds_succ]
    go_wp2
    go_ret;exact ⟨zam (by simp),World.ownsRow_nil _ _ _ _,Below.refl _ _,Nat.le_refl _,fun _ _ _=>rfl⟩
  · refine (zpj g cap xs.length base k xs w hk hk2 rfl hn own).mono ?_
    rintro e w' ⟨he,ho,hu⟩;exact ⟨he,ho,hu.toBelow hbase hg,hu.size,fun i hi hn=>hu.block i hi (fun e=>hn (by rw [e];rfl))⟩
theorem ztn (v : Value) (n : Nat) (k : Int) (w : World) (hk : 0<=k) (hk2 : k<=1073741824) (hn : n<=1048576) (hr : ReadsR 2 zdm w.heap.size w v (zc6 k n)) :
    Calls Tryz.prog 106 #[v,.int .i64 k] w fun e w'=>e = .returned (.int .i64 (k+2 * n))/\Below w.heap.size w w':=by
  obtain ⟨o,cap,rfl,hm,hc,-⟩:=hr;have HC : Hid _:=zja hc;rw [marksP_length] at hm ⊢;clear hc hm
  go_enter Tryz.func106,Tryz.ntmps106
  go_wp2
  go_loopw [1,5] (fun q i wr=>∃ j : Nat,j<=n/\i = .int .i64 j/\q = .int .i64 (k+2 * j)/\wr=w) (fun _ i _=>n - (intOf i).toNat)
  case atStart=>exact ⟨0,Nat.zero_le _,rfl,by simp,rfl⟩
  case round =>
    obtain ⟨j,hj,rfl,rfl,rfl⟩:=hrel;by_cases hlt : j < n
    · have hjl : j < (zc6 k n).length:=by rw [marksP_length];exact hlt
      obtain ⟨g,off,rfl,hg,a0,a1⟩:=HC.out j hjl;rw [zrj k n j hjl] at a0 a1;simp only at a0 a1;clear HC hjl
      go_wp2
      go_roundw
      case rel=>exact ⟨j+1,by omega,by go_num,by go_num,by trivial⟩
      case measure=>simp [intOf];omega
    · obtain rfl : j=n:=by omega
      go_wp2_with fail
      go_ret;exact ⟨rfl,Below.refl _ _⟩
structure RM (B : Nat) (w : World) (v1 v2 : Value) (ts : List Int) (rs : List (Int × Int)) : Prop where
  t : Reads B w v1 (ts.map (Value.int .i64))
  r : ReadsR 2 zdm B w v2 rs
theorem RM.below {B : Nat} {w w' : World} {v1 v2 : Value} {ts : List Int} {rs : List (Int × Int)} (h : RM B w v1 v2 ts rs) (k : Below B w w') : RM B w' v1 v2 ts rs:=⟨h.t.below k,h.r.below k⟩
theorem RM.mono {B B' : Nat} {w : World} {v1 v2 : Value} {ts : List Int} {rs : List (Int × Int)} (h : RM B w v1 v2 ts rs) (k : B<=B') : RM B' w v1 v2 ts rs:=⟨h.t.mono k,h.r.mono k⟩
theorem RM.of {B : Nat} {W : World} {v1 v2 : Value} {ts : List Int} {rs : List (Int × Int)} (h : RM B W v1 v2 ts rs) (y : B<=W.heap.size) (p : BelowOf W) : RM p.w'.heap.size p.w' v1 v2 ts rs:=((h.mono y).below p.h).mono p.h.size
theorem RM.forms {B : Nat} {w : World} {v1 v2 : Value} {ts : List Int} {rs : List (Int × Int)} (h : RM B w v1 v2 ts rs) : ∃ o1 k1 o2 k2,v1 = .slice o1 ts.length k1/\v2 = .slice o2 rs.length k2:=by
  obtain ⟨⟨o,k,e,-⟩,⟨o',k',e',-⟩⟩:=h;exact ⟨o,k,o',k',by rw [e,List.length_map],e'⟩
structure OwnM (base : Nat) (w : World) (v1 v2 : Value) (ts : List Int) (rs : List (Int × Int)) : Prop where
  t : w.ownsRow base 2 1 v1 ts.length (ts.map (Value.int .i64))
  r : w.ownsRow base 43 2 v2 rs.length (rs.flatMap zdm)
theorem OwnM.below {base : Nat} {w w' : World} {v1 v2 : Value} {ts : List Int} {rs : List (Int × Int)} (h : OwnM base w v1 v2 ts rs) (b : Below w.heap.size w w') : OwnM base w' v1 v2 ts rs:=⟨za9 h.t b,za9 h.r b⟩
theorem OwnM.mono {base base' : Nat} {w : World} {v1 v2 : Value} {ts : List Int} {rs : List (Int × Int)} (h : OwnM base w v1 v2 ts rs) (b : base'<=base) : OwnM base' w v1 v2 ts rs:=⟨zah h.t b,zah h.r b⟩
theorem OwnM.upto {base c : Nat} {w w' : World} {v1 v2 : Value} {ts : List Int} {rs : List (Int × Int)} (h : OwnM base w v1 v2 ts rs) (u : Upto c w w') (hc : c < base) : OwnM base w' v1 v2 ts rs:=⟨zbc h.t u hc,zbc h.r u hc⟩
theorem OwnM.reads {base : Nat} {w : World} {v1 v2 : Value} {ts : List Int} {rs : List (Int × Int)} (h : OwnM base w v1 v2 ts rs) : RM w.heap.size w v1 v2 ts rs:=⟨Reads.of_own h.t,ReadsR.of_own zdy h.r⟩
theorem OwnM.nil (base : Nat) (w : World) : OwnM base w (.slice none 0 0) (.slice none 0 0) [] []:=⟨zes _ _ _ _,zes _ _ _ _⟩
theorem OwnM.rng {lo hi base : Nat} {w w' : World} {v1 v2 : Value} {ts : List Int} {rs : List (Int × Int)} (h : OwnM base w v1 v2 ts rs) (k : Rng lo hi w w') (hb : hi<=base) : OwnM base w' v1 v2 ts rs:=⟨zh7 h.t k hb,zh7 h.r k hb⟩
theorem OwnM.span {base : Nat} {w : World} {v1 v2 : Value} {ts : List Int} {rs : List (Int × Int)} (h : OwnM base w v1 v2 ts rs) : ∀ g,(v1.ownBlock=some g\/v2.ownBlock=some g)->base<=g/\g < w.heap.size:=by
  rintro g (h1 | h1)
  · exact h.t.lt g h1
  · exact h.r.lt g h1
theorem zd5 {w : World} {b1 b2 k1 k2 n1 n2 : Nat} {e1 e2 : TypeId} {v1 v2 : Value} {x1 x2 : List Value} (h1 : w.ownsRow b1 e1 k1 v1 n1 x1) (h2 : w.ownsRow b2 e2 k2 v2 n2 x2) (he : e1 ≠ e2) : ∀ g,v1.ownBlock=some g->v2.ownBlock ≠ some g:=by
  intro g hg
  rcases h1.2 with ⟨rfl,_⟩ | ⟨g1,cap1,cur1,rfl,_,hh,_⟩
  · cases hg
  · simp [Value.ownBlock] at hg
    subst hg;intro h
    rcases h2.2 with ⟨rfl,_⟩ | ⟨g2,cap2,cur2,rfl,_,hh2,_⟩
    · cases h
    · simp [Value.ownBlock] at h
      subst h;rw [hh] at hh2;simp at hh2;exact he hh2.2
theorem OwnM.apart {base : Nat} {w : World} {v1 v2 : Value} {ts : List Int} {rs : List (Int × Int)} (h : OwnM base w v1 v2 ts rs) : ∀ g,v1.ownBlock=some g->v2.ownBlock ≠ some g:=zd5 h.t h.r (by decide)
theorem zto (c v c1 v1 : Int) (w : World) : (Op.equalIn 10000 43 (.agg #[.int .i64 c,.int .i64 v]) (.agg #[.int .i64 c1,.int .i64 v1])).run Tryz.prog w = .ok (decide ((c,v)=(c1,v1))) w:=by
  go_simp
  by_cases h1 : c=c1 <;> by_cases h2 : v=v1 <;> simp [h1,h2]
theorem zpk {w W0 : World} {M1 M2 : Array Value} {x y : Value} (k0 : W0.heap[w.heap.size]? = some (.cells #[x,y] 33 (0,0))) (d0 : Below w.heap.size w W0) (z0 : W0.heap.size=w.heap.size+1)
    (hown1 : ∀ (W : World) (base : Nat),base<=W.heap.size->(W.alloc (.cells M1 2)).ownsRow base 2 1 (.slice (some ⟨W.heap.size,0,none⟩) 4 4) 4 ([0,0,0,0].map (Value.int .i64)))
    (hown2 : ∀ (W : World) (base : Nat),base<=W.heap.size->(W.alloc (.cells M2 43)).ownsRow base 43 2 (.slice (some ⟨W.heap.size,0,none⟩) 4 4) 4 (([(0,0),(0,0),(0,0),(0,0)] : List (Int × Int)).flatMap zdm))
    (a b : Nat) (oa ob : Obj) (hab : (a=w.heap.size+1/\b=w.heap.size+1+1/\oa = .cells M1 2/\ob = .cells M2 43)\/(a=w.heap.size+1+1/\b=w.heap.size+1/\oa = .cells M2 43/\ob = .cells M1 2)) :
    (((((W0.setCell ⟨w.heap.size,0,none⟩ (.slice (some ⟨a,0,none⟩) 4 4)).setCell ⟨w.heap.size,1,none⟩ (.slice (some ⟨b,0,none⟩) 4 4)).alloc oa).alloc ob).drew).heap[w.heap.size]? = some (.cells #[.slice (some ⟨a,0,none⟩) 4 4,.slice (some ⟨b,0,none⟩) 4 4] 33 (0,0)) /\
    OwnM w.heap.size (((((W0.setCell ⟨w.heap.size,0,none⟩ (.slice (some ⟨a,0,none⟩) 4 4)).setCell ⟨w.heap.size,1,none⟩ (.slice (some ⟨b,0,none⟩) 4 4)).alloc oa).alloc ob).drew) (.slice (some ⟨a,0,none⟩) 4 4) (.slice (some ⟨b,0,none⟩) 4 4) [0,0,0,0] [(0,0),(0,0),(0,0),(0,0)] /\
    Below w.heap.size w (((((W0.setCell ⟨w.heap.size,0,none⟩ (.slice (some ⟨a,0,none⟩) 4 4)).setCell ⟨w.heap.size,1,none⟩ (.slice (some ⟨b,0,none⟩) 4 4)).alloc oa).alloc ob).drew):=by
  obtain ⟨h1,h2⟩:=zcp k0 (.slice (some ⟨a,0,none⟩) 4 4) (.slice (some ⟨b,0,none⟩) 4 4);generalize hW : (W0.setCell ⟨w.heap.size,0,none⟩ (.slice (some ⟨a,0,none⟩) 4 4)).setCell ⟨w.heap.size,1,none⟩ (.slice (some ⟨b,0,none⟩) 4 4)=W1 at h1 h2 ⊢;have s1 : W1.heap.size=w.heap.size+1:=by rw [<- hW,World.size_setCell,World.size_setCell,z0]
  clear hW;have s2 : (W1.alloc oa).heap.size=w.heap.size+1+1:=by simp [s1]
  have e1:=(Below.heap_alloc (W1.alloc oa) ob w.heap.size (by omega)).trans ((Below.heap_alloc W1 oa w.heap.size (by omega)).trans h1);refine ⟨e1,?_,zar (za3 (za3 (d0.trans (h2.toBelow (by omega) (Nat.le_refl _)))))⟩
  rcases hab with ⟨rfl,rfl,rfl,rfl⟩ | ⟨rfl,rfl,rfl,rfl⟩
  · have o1:=hown1 W1 w.heap.size (by omega)
    have o2:=hown2 (W1.alloc (.cells M1 2)) w.heap.size (by omega);rw [s1] at o1;rw [s2] at o2;exact ⟨o1.alloc _,o2⟩
  · have o1:=hown2 W1 w.heap.size (by omega)
    have o2:=hown1 (W1.alloc (.cells M2 43)) w.heap.size (by omega);rw [s1] at o1;rw [s2] at o2;exact ⟨o2,o1.alloc _⟩
theorem zk6 (w : World) :
    Calls Tryz.prog 134 #[] w fun e w'=>∃ u1 u2 : Value,e = .returned (.agg #[u1,u2])/\OwnM w.heap.size w' u1 u2 [0,0,0,0] [(0,0),(0,0),(0,0),(0,0)]/\Below w.heap.size w w':=by
  obtain ⟨W0,hW0,k0,d0,z0⟩:=zb4 w #[.slice none 0 0,.slice none 0 0] 33;have HW0 : Hid (W0 = _):=hW0;obtain ⟨p0,p1⟩:=cq2 k0;obtain ⟨f0,f1⟩:=oq2 k0;obtain ⟨M1,-,hmk1,hown1⟩:=zfr 4 (by omega);obtain ⟨M2,hmk2,hown2⟩:=ztm 4 (by omega);have hmk1' : ∀ W : World,(Instr.makeSlice 25 (.int .i64 4) (.int .i64 4)).run Tryz.prog W = .ok (.slice (some ⟨W.heap.size,0,none⟩) 4 4) (W.alloc (.cells M1 2)):=hmk1;have hmk2' : ∀ W : World,(Instr.makeSlice 31 (.int .i64 4) (.int .i64 4)).run Tryz.prog W = .ok (.slice (some ⟨W.heap.size,0,none⟩) 4 4) (W.alloc (.cells M2 43)):=hmk2;clear hmk1 hmk2 hW0
  go_enter Tryz.func134,Tryz.ntmps134
  go_wp2_with fail
  rw [<- HW0.out]
  go_region
  · have HS : Hid _:=zpk k0 d0 z0 hown1 hown2 (w.heap.size+1) (w.heap.size+1+1) _ _ (.inl ⟨rfl,rfl,rfl,rfl⟩)
    clear k0 d0 hown1 hown2 hmk1' hmk2' HW0
    go_wp2_with fail
    exact bodyPost_ret (v:=.agg #[.slice (some ⟨w.heap.size+1,0,none⟩) 4 4,.slice (some ⟨w.heap.size+1+1,0,none⟩) 4 4]) (by simp [results,Tryz.results134,go_sem,za0 HS.out.1]) rfl ⟨_,_,rfl,HS.out.2⟩
  · have HS : Hid _:=zpk k0 d0 z0 hown1 hown2 (w.heap.size+1+1) (w.heap.size+1) _ _ (.inr ⟨rfl,rfl,rfl,rfl⟩)
    clear k0 d0 hown1 hown2 hmk1' hmk2' HW0
    go_wp2_with fail
    exact bodyPost_ret (v:=.agg #[.slice (some ⟨w.heap.size+1+1,0,none⟩) 4 4,.slice (some ⟨w.heap.size+1,0,none⟩) 4 4]) (by simp [results,Tryz.results134,go_sem,za0 HS.out.1]) rfl ⟨_,_,rfl,HS.out.2⟩
theorem zni {α : Type} {k : Nat} {cs : α->List Value} (hk : ∀ x,(cs x).length=k) (hk0 : 0 < k) {B : Nat} {w : World} {g off n cap : Nat} {xs : List α} (h : ReadsR k cs B w (.slice (some ⟨g,off,none⟩) n cap) xs) : ∀ j u,(xs.flatMap cs)[j]? = some u->w.cell? ((⟨g,off,none⟩ : Addr).add j)=some u:=fun j u hj=>by
  obtain ⟨o',cap',e,-,hc,-⟩:=h;simp only [Value.slice.injEq] at e;obtain ⟨rfl,rfl,rfl⟩:=e;have hjl:=(List.getElem?_eq_some_iff.1 hj).1;rw [zbb hk] at hjl;have hi3 : j / k < xs.length:=Nat.div_lt_of_lt_mul (by rw [Nat.mul_comm];exact hjl);obtain ⟨g',off',e,hg,hx⟩:=hc (j / k) xs[j / k] (List.getElem?_eq_getElem hi3);simp only [Option.some.injEq,Addr.mk.injEq,and_true] at e;obtain ⟨rfl,rfl⟩:=e;have hr : j % k < k:=Nat.mod_lt _ hk0;have he : j / k * k+j % k=j:=by rw [Nat.mul_comm];exact Nat.div_add_mod j k
  have h1:=zfo hk xs (j / k) (j % k) xs[j / k] (List.getElem?_eq_getElem hi3) hr;rw [he,hj] at h1;have h2:=hx (j % k) u h1.symm;have ea : (⟨g,off,none⟩ : Addr).add j=⟨g,off+j,none⟩:=by unfold Addr.add;split <;> simp_all
  rw [ea];rw [Nat.add_assoc,he] at h2;exact h2
theorem zpl (rs : List (Int × Int)) : ∀ u ∈ rs.flatMap zdm,u.oneCell'=true:=fun u hu=>by
  obtain ⟨x,_,hx⟩:=List.mem_flatMap.1 hu;simp [zdm] at hx;rcases hx with rfl | rfl <;> rfl
theorem zii {w w' : World} {base b : Nat} {e : TypeId} {size : Nat} {v : Value} {n : Nat} {xs : List Value} {cs : Array Value} {t : TypeId} (h : w.ownsRow base e size v n xs) (k : w.heap[b]? = some (.cells cs t (0,0))) (ht : t ≠ e) (u : Upto b w w') : w'.ownsRow base e size v n xs :=
  zai h fun g hg hv=>u.block g hg fun e=>zaa h k ht (by rw [hv,e])
theorem OwnM.box {base b : Nat} {w w' : World} {v1 v2 : Value} {ts : List Int} {rs : List (Int × Int)} {cs : Array Value} (h : OwnM base w v1 v2 ts rs) (k : w.heap[b]? = some (.cells cs 33 (0,0))) (u : Upto b w w') : OwnM base w' v1 v2 ts rs:=⟨zii h.t k (by decide) u,zii h.r k (by decide) u⟩
theorem zen (w W : World) (u1 u2 x y : Value) (b : Nat) (ts : List Int) (rs : List (Int × Int)) (hb : w.heap.size<=b) (k : W.heap[b]? = some (.cells #[x,y] 33 (0,0))) (own : OwnM w.heap.size W u1 u2 ts rs) (d : Below w.heap.size w W) :
    ((W.setCell ⟨b,0,none⟩ u1).setCell ⟨b,1,none⟩ u2).heap[b]? = some (.cells #[u1,u2] 33 (0,0))/\OwnM w.heap.size ((W.setCell ⟨b,0,none⟩ u1).setCell ⟨b,1,none⟩ u2) u1 u2 ts rs/\Below w.heap.size w ((W.setCell ⟨b,0,none⟩ u1).setCell ⟨b,1,none⟩ u2):=by
  obtain ⟨h1,h2⟩:=zcp k u1 u2;exact ⟨h1,own.box k h2,d.trans (h2.toBelow d.size (by omega))⟩
end Go.Proofs.YtfkkapdofjhgpaaGreatDoor
namespace Go.Proofs.YtfkkapdofjhgpaaGreatDoor
open Nums
set_option linter.unusedVariables false
set_option maxRecDepth 100000
def zrl (k : Int) : Int:=if kAt k=true then 255 else 0
def lmLo (k : Int) : Int:=if kSize k=true then 1 else 0
def lmHi (k : Int) : Int:=if kSize k=true then 16 else if k=2 then 999 else 0
def lmEp (k : Int) : Int:=if kEpoch k=true then 1000 else 0
def zk7 (ot : ByteArray) (h : Bool) : Bool:=if h=true then nameB ot.data.toList else decide (ot.size=0)
def zyt (o : Oq) : Bool :=
  inB o.k 1 9 && nameB o.nm.data.toList && zk7 o.ot (kOther o.k) && inB o.at_ 0 (zrl o.k) && inB o.va (lmLo o.k) (lmHi o.k) && inB o.ep 0 (lmEp o.k)
theorem zvw (x : Int) : inB x 0 0=decide (x=0):=by
  rw [Bool.eq_iff_iff,inB_iff,decide_eq_true_eq];omega
theorem zvx (b : Bool) (x hi : Int) (h : 0<=hi) : ((b || decide (x=0)) && inB x 0 hi)=inB x 0 (if b=true then hi else 0):=by
  cases b
  · rw [Bool.eq_iff_iff]
    simp only [Bool.false_or,Bool.and_eq_true,inB_iff,decide_eq_true_eq,Bool.false_eq_true,if_false]
    omega
  · simp
theorem zz2 (ot : ByteArray) (b : Bool) : ((b == decide (ot.size ≠ 0)) && (!b || nameB ot.data.toList))=zk7 ot b:=by
  cases b
  · simp [zk7]
  · unfold zk7
    rw [if_pos rfl];cases h : nameB ot.data.toList
    · simp
    · have:=zd1 ot h
      have e : decide (ot.size ≠ 0)=true:=by simp only [decide_eq_true_eq];omega
      rw [e]
      rfl
theorem zyu (k va : Int) : valOk k va=inB va (lmLo k) (lmHi k):=by
  unfold valOk lmLo lmHi
  split
  · rfl
  · split
    · rfl
    · exact (zvw va).symm
theorem zxn (o : Oq) : opOk o=zyt o:=by
  have h1:=zz2 o.ot (kOther o.k);have h2:=zvx (kAt o.k) o.at_ 255 (by omega);have h3:=zvx (kEpoch o.k) o.ep 1000 (by omega);have h4:=zyu o.k o.va
  have e : opOk o=(nameB o.nm.data.toList && inB o.k 1 9 && ((kOther o.k == decide (o.ot.size ≠ 0)) && (!kOther o.k || nameB o.ot.data.toList)) && ((kAt o.k || decide (o.at_=0)) && inB o.at_ 0 255) && ((kEpoch o.k || decide (o.ep=0)) && inB o.ep 0 1000) && valOk o.k o.va):=by
    unfold opOk;simp only [Bool.and_assoc]
  rw [e,h1,h2,h3,h4];unfold zyt zrl lmEp;generalize nameB o.nm.data.toList=a;generalize inB o.k 1 9=b;generalize zk7 o.ot (kOther o.k)=c;generalize inB o.at_ 0 _=d;generalize inB o.ep 0 _=e;generalize inB o.va _ _=f;cases a <;> cases b <;> cases c <;> cases d <;> cases e <;> cases f <;> rfl
end Go.Proofs.YtfkkapdofjhgpaaGreatDoor
namespace Go.Proofs.YtfkkapdofjhgpaaGreatDoor
open Go.RowKit
set_option linter.unusedVariables false
set_option maxRecDepth 100000
theorem ze8 (x lo hi : Int) (w : World) :
    Calls Tryz.prog 121 #[.int .i64 x,.int .i64 lo,.int .i64 hi] w fun e w'=>e = .returned (.bool (inB x lo hi))/\w'=w:=by
  by_cases h : lo<=x
  · go_enter Tryz.func121,Tryz.ntmps121
    go_wp2
    go_ret;exact ⟨za6 (by simp [inB,h]),rfl⟩
  · go_enter Tryz.func121,Tryz.ntmps121
    go_wp2
    go_ret;exact ⟨za6 (by simp [inB];omega),rfl⟩
theorem zpm (ot : ByteArray) (b : Bool) (w : World) (ho : ot.size<=maxLen) :
    Calls Tryz.prog 250 #[.string ot,.bool b] w fun e w'=>e = .returned (.bool (zk7 ot b))/\w'=w:=by
  cases b
  · have HE : Hid (_ = _):=zpa ot
    have HV : Hid (zk7 ot false=decide (ot.size=0)):=by simp [Hid,zk7]
    go_enter Tryz.func250,Tryz.ntmps250
    go_wp2_with fail
    go_ret;exact ⟨za6 (by rw [HV.out,<- HE.out];simp),rfl⟩
  · have HV : Hid (zk7 ot true=Nums.nameB ot.data.toList):=by simp [Hid,zk7]
    go_enter Tryz.func250,Tryz.ntmps250
    go_wp2_with fail
    refine (zeg ot _ ho).mono ?_;rintro e w' ⟨rfl,rfl⟩
    go_wp2_with fail
    go_ret;exact ⟨za6 HV.out.symm,rfl⟩
def zrm (k : Int) : Value:=.tuple #[.agg #[.bool (kOther k),.int .i64 (zrl k),.int .i64 (lmLo k),.int .i64 (lmHi k),.int .i64 (lmEp k)],.bool (inB k 1 9)]
theorem ztp (k : Int) (w : World) (h : k=1\/k=2\/k=3\/k=4\/k=5\/k=6\/k=7\/k=8\/k=9) :
    Calls Tryz.prog 249 #[.int .i64 k] w fun e w'=>e = .returned (zrm k)/\Below w.heap.size w w':=by
  rcases h with rfl | rfl | rfl | rfl | rfl | rfl | rfl | rfl | rfl
  all_goals
    go_enter Tryz.func249,Tryz.ntmps249
    go_wp2_with fail
    exact bodyPost_ret (v:=zrm _) (by simp [results,Tryz.results249,go_sem];rfl) rfl ⟨rfl,by go_grown⟩
theorem zrn (k : Int) (w : World) (h : ¬ (1<=k/\k<=9)) :
    Calls Tryz.prog 249 #[.int .i64 k] w fun e w'=>e = .returned (zrm k)/\Below w.heap.size w w':=by
  have n1 : ¬ k=1:=by omega
  have n2 : ¬ k=2:=by omega
  have n3 : ¬ k=3:=by omega
  have n4 : ¬ k=4:=by omega
  have n5 : ¬ k=5:=by omega
  have n6 : ¬ k=6:=by omega
  have n7 : ¬ k=7:=by omega
  have n8 : ¬ k=8:=by omega
  have n9 : ¬ k=9:=by omega
  have HV : Hid (zrm k = .tuple #[.agg #[.bool false,.int .i64 0,.int .i64 0,.int .i64 0,.int .i64 0],.bool false]):=by
    have e : inB k 1 9=false:=by rw [Bool.eq_false_iff,ne_eq,inB_iff];exact h
    unfold zrm;rw [Hid,e];simp [zrl,lmLo,lmHi,lmEp,kAt,kSize,kEpoch,kOther, *]
  go_enter Tryz.func249,Tryz.ntmps249
  go_wp2_with fail
  exact bodyPost_ret (v:=.tuple #[.agg #[.bool false,.int .i64 0,.int .i64 0,.int .i64 0,.int .i64 0],.bool false]) (by simp [results,Tryz.results249,go_sem]) rfl ⟨by rw [HV.out],by go_grown⟩
theorem zro (k : Int) (w : World) :
    Calls Tryz.prog 249 #[.int .i64 k] w fun e w'=>e = .returned (zrm k)/\Below w.heap.size w w':=by
  by_cases h : 1<=k/\k<=9
  · exact ztp k w (by omega)
  · exact zrn k w h
theorem zbr (k : Int) (nm ot : ByteArray) (at_ va ep : Int) (w : World) (hn : nm.size<=maxLen) (ho : ot.size<=maxLen) (fk : I64 k) (fa : I64 at_) (fv : I64 va) (fe : I64 ep) :
    Calls Tryz.prog 223 #[.agg #[.int .i64 k,.string nm,.string ot,.int .i64 at_,.int .i64 va,.int .i64 ep]] w fun e w'=>e = .returned (.bool (opOk ⟨k,nm,ot,at_,va,ep⟩))/\Below w.heap.size w w':=by
  rw [zxn];obtain ⟨W0,hW0,k0,d0,z0⟩:=zb4 w #[.int .i64 k,.string nm,.string ot,.int .i64 at_,.int .i64 va,.int .i64 ep] 37;have HW0 : Hid (W0 = _):=hW0;have s0:=za2 k0;have p0:=za0 k0 0;clear hW0 z0
  go_enter Tryz.func223,Tryz.ntmps223
  go_wp2_with fail
  rw [<- HW0.out];clear HW0 p0;refine (zro k _).mono ?_;unfold zrm;rintro e w1 ⟨rfl,b1⟩;replace k0:=(b1.block _ s0).trans k0;replace d0:=za1 d0 b1;have t0:=za2 k0;have o1:=za0 k0 1;obtain ⟨W1,hW1,k1,d1,z1⟩:=zb4 w1 #[.bool (kOther k),.int .i64 (zrl k),.int .i64 (lmLo k),.int .i64 (lmHi k),.int .i64 (lmEp k)] 271;have HW1 : Hid (W1 = _):=hW1;replace k0:=(d1.block _ t0).trans k0;replace d0:=za1 d0 d1;have p1:=za0 k0 1;have p2:=za0 k0 2;have p3:=za0 k0 3;have p4:=za0 k0 4;have p5:=za0 k0 5;obtain ⟨r0,r1,r2,r3,r4⟩:=cq5 k1;have HB : Hid (zyt ⟨k,nm,ot,at_,va,ep⟩=(inB k 1 9 && Nums.nameB nm.data.toList && zk7 ot (kOther k) && inB at_ 0 (zrl k) && inB va (lmLo k) (lmHi k) && inB ep 0 (lmEp k))):=rfl;clear b1 d1 z1 hW1 k0 k1 s0;generalize kOther k=x0 at *;generalize zrl k=x1 at *;generalize lmLo k=x2 at *;generalize lmHi k=x3 at *;generalize lmEp k=x4 at *;generalize inB k 1 9=c0 at *;cases c0
  · go_wp2_with fail
    rw [<- HW1.out];clear HW1;go_ret;exact ⟨za6 (by rw [HB.out];rfl),d0⟩
  go_wp2_with fail
  rw [<- HW1.out];clear HW1 o1 t0;refine (zeg nm _ hn).mono ?_;rintro e w' ⟨rfl,rfl⟩;generalize Nums.nameB nm.data.toList=c1 at *;cases c1
  · go_wp2_with fail
    go_ret;exact ⟨za6 (by rw [HB.out];rfl),d0⟩
  go_wp2_with fail
  refine (zpm ot x0 _ ho).mono ?_;rintro e w' ⟨rfl,rfl⟩;generalize zk7 ot x0=c2 at *;cases c2
  · go_wp2_with fail
    go_ret;exact ⟨za6 (by rw [HB.out];rfl),d0⟩
  go_wp2_with fail
  refine (ze8 at_ 0 x1 _).mono ?_;rintro e w' ⟨rfl,rfl⟩;generalize inB at_ 0 x1=c3 at *;cases c3
  · go_wp2_with fail
    go_ret;exact ⟨za6 (by rw [HB.out];rfl),d0⟩
  go_wp2_with fail
  refine (ze8 va x2 x3 _).mono ?_;rintro e w' ⟨rfl,rfl⟩;generalize inB va x2 x3=c4 at *;cases c4
  · go_wp2_with fail
    go_ret;exact ⟨za6 (by rw [HB.out];rfl),d0⟩
  go_wp2_with fail
  refine (ze8 ep 0 x4 _).mono ?_;rintro e w' ⟨rfl,rfl⟩;generalize inB ep 0 x4=c5 at *
  go_wp2_with fail
  go_ret;exact ⟨za6 (by rw [HB.out];rfl),d0⟩
theorem zk8 (k : Int) (nm ot : ByteArray) (at_ va ep : Int) (w : World) (hn : nm.size<=maxLen) (ho : ot.size<=maxLen) (fk : I64 k) (fa : I64 at_) (fv : I64 va) (fe : I64 ep) :
    Calls Tryz.prog 205 #[.agg #[.int .i64 k,.string nm,.string ot,.int .i64 at_,.int .i64 va,.int .i64 ep]] w fun e w'=>e = .returned (.bool (zdt ⟨k,nm,ot,at_,va,ep⟩))/\Below w.heap.size w w':=by
  obtain ⟨W0,hW0,k0,d0,z0⟩:=zb4 w #[.int .i64 k,.string nm,.string ot,.int .i64 at_,.int .i64 va,.int .i64 ep] 37;have HW0 : Hid (W0 = _):=hW0;have s0:=za2 k0;clear hW0 z0
  go_enter Tryz.func205,Tryz.ntmps205
  go_wp2_with fail
  rw [<- HW0.out];clear HW0;refine (zbr k nm ot at_ va ep _ hn ho fk fa fv fe).mono ?_;rintro e w1 ⟨rfl,b1⟩;replace k0:=(b1.block _ s0).trans k0;replace d0:=za1 d0 b1;have p0:=za0 k0 0;clear b1 k0;have HC : Hid (zdt ⟨k,nm,ot,at_,va,ep⟩=(opOk ⟨k,nm,ot,at_,va,ep⟩ && decide (k ≠ 9))):=rfl;generalize opOk ⟨k,nm,ot,at_,va,ep⟩=c at *;cases c
  · go_wp2_with fail
    go_ret;exact ⟨za6 (by rw [HC.out];rfl),d0⟩
  · go_wp2_with fail
    go_ret;exact ⟨za6 (by rw [HC.out];simp;rfl),d0⟩
theorem zij (x : Int) (w : World) : Calls Tryz.prog 203 #[.int .i64 x] w fun e w'=>e = .returned (.bool (inB x 0 3))/\w'=w:=by
  go_enter Tryz.func203,Tryz.ntmps203
  go_wp2_with fail
  refine (ze8 x 0 3 _).mono ?_;rintro e w' ⟨rfl,rfl⟩
  go_wp2_with fail
  go_ret;exact ⟨rfl,rfl⟩
theorem zjb (x : Int) (w : World) : Calls Tryz.prog 204 #[.int .i64 x] w fun e w'=>e = .returned (.bool (inB x 1 1000))/\w'=w:=by
  go_enter Tryz.func204,Tryz.ntmps204
  go_wp2_with fail
  refine (ze8 x 1 1000 _).mono ?_;rintro e w' ⟨rfl,rfl⟩
  go_wp2_with fail
  go_ret;exact ⟨rfl,rfl⟩
theorem zga (x lo hi : Int) (w : World) :
    Calls Tryz.prog 121 #[.int .i64 x,.int .i64 lo,.int .i64 hi] w fun e w'=>e = .returned (.bool (inB x lo hi))/\w'=w:=by
  by_cases h : lo<=x
  · go_enter Tryz.func121,Tryz.ntmps121
    go_wp2
    go_ret;exact ⟨za6 (by simp [inB,h]),rfl⟩
  · go_enter Tryz.func121,Tryz.ntmps121
    go_wp2
    go_ret;exact ⟨za6 (by simp [inB];omega),rfl⟩
theorem zgh (c v : Int) (w : World) :
    Calls Tryz.prog 191 #[.agg #[.int .i64 c,.int .i64 v]] w fun e w'=>e = .returned (.bool (ze4 c v))/\Below w.heap.size w w':=by
  obtain ⟨W0,hW0,k0,d0,z0⟩:=zb4 w #[.int .i64 c,.int .i64 v] 43;have HW0 : Hid (W0 = _):=hW0;obtain ⟨p0,p1⟩:=cq2 k0;have HB : Hid (ze4 c v=(inB c 0 9 && inB v 0 (if c=0 then 1000 else 0))):=zvn c v;clear hW0 k0;by_cases h0 : c=0
  · subst h0
    rw [if_pos rfl] at HB
    go_enter Tryz.func191,Tryz.ntmps191
    go_wp2_with fail
    rw [<- HW0.out];clear HW0;refine (zga 0 0 9 _).mono ?_;have hin : inB 0 0 9=true:=rfl;rw [hin] at HB ⊢;rintro e w' ⟨rfl,rfl⟩;clear hin
    go_wp2_with fail
    refine (zga v 0 1000 _).mono ?_;generalize inB v 0 1000=b1 at *;rintro e w' ⟨rfl,rfl⟩
    go_wp2_with fail
    go_ret;exact ⟨za6 (by rw [HB.out];rfl),d0⟩
  · rw [if_neg h0] at HB
    go_enter Tryz.func191,Tryz.ntmps191
    go_wp2_with fail
    rw [<- HW0.out];clear HW0 h0;refine (zga c 0 9 _).mono ?_;generalize inB c 0 9=b0 at *;rintro e w' ⟨rfl,rfl⟩;cases b0
    · go_wp2_with fail
      go_ret;exact ⟨za6 (by rw [HB.out];rfl),d0⟩
    go_wp2_with fail
    refine (zga v 0 0 _).mono ?_;generalize inB v 0 0=b1 at *;rintro e w' ⟨rfl,rfl⟩
    go_wp2_with fail
    go_ret;exact ⟨za6 (by rw [HB.out];rfl),d0⟩
end Go.Proofs.YtfkkapdofjhgpaaGreatDoor
