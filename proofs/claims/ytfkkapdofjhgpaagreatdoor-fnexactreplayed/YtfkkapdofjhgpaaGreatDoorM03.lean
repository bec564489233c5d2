import Derived.Laws.MakeOwn
import Derived.WalkKit
import Derived.Test.YtfkkapdofjhgpaaGreatDoorM02
set_option maxHeartbeats 12800000
namespace Go.Proofs.YtfkkapdofjhgpaaGreatDoor
open Go.RowKit
set_option linter.unusedVariables false
set_option maxRecDepth 100000
def zak (r : Int × Int × Int) : List Value:=[.int .i64 r.1,.int .i64 r.2.1,.int .i64 r.2.2]
theorem zat (r : Int × Int × Int) : (zak r).length=3:=rfl
theorem Tryz.infoRun : (Tryz.prog.info? 172).map (fun i=>(i.zero,i.size,i.bytes))=some (some (.agg #[.int .i64 0,.int .i64 0,.int .i64 0]),3,24):=by kernel_rfl
theorem zcn {B : Nat} {w : World} {o : Option Addr} {rs : List (Int × Int × Int)} (hc : ∀ i x,rs[i]? = some x->∃ g off,o=some ⟨g,off,none⟩/\g < B/\∀ j u,(zak x)[j]? = some u->w.cell? ⟨g,off+i * 3+j,none⟩=some u) (i : Nat) (hi : i < rs.length) :
    ∃ g off,o=some ⟨g,off,none⟩/\g < B/\w.cell? ⟨g,off+i * 3,none⟩=some (.int .i64 rs[i].1)/\w.cell? ⟨g,off+i * 3+1,none⟩=some (.int .i64 rs[i].2.1)/\w.cell? ⟨g,off+i * 3+2,none⟩=some (.int .i64 rs[i].2.2):=by
  obtain ⟨g,off,e,hg,hx⟩:=hc i rs[i] (List.getElem?_eq_getElem hi);exact ⟨g,off,e,hg,hx 0 _ rfl,hx 1 _ rfl,hx 2 _ rfl⟩
theorem zsq (f c p f' c' p' : Int) (w : World) :
    Calls Tryz.prog 198 #[.agg #[.int .i64 f,.int .i64 c,.int .i64 p],.agg #[.int .i64 f',.int .i64 c',.int .i64 p']] w fun e w'=>e = .returned (.bool (decide ((f,c,p)=(f',c',p'))))/\Below w.heap.size w w':=by
  by_cases e1 : f=f'
  · subst e1
    by_cases e2 : c=c'
    · subst e2
      by_cases e3 : p=p'
      · subst e3
        go_enter Tryz.func198,Tryz.ntmps198
        go_wp2
        go_ret;exact ⟨za6 (by simp),za3 (za3 (Below.refl _ _))⟩
      · have h1 : (p == p')=false:=by simpa using e3
        have h2 : (p != p')=true:=by simpa using e3
        go_enter Tryz.func198,Tryz.ntmps198
        go_wp2
        go_ret;exact ⟨za6 (by simp [e3]),za3 (za3 (Below.refl _ _))⟩
    · have h1 : (c == c')=false:=by simpa using e2
      have h2 : (c != c')=true:=by simpa using e2
      go_enter Tryz.func198,Tryz.ntmps198
      go_wp2
      go_ret;exact ⟨za6 (by simp [e2]),za3 (za3 (Below.refl _ _))⟩
  · have h1 : (f == f')=false:=by simpa using e1
    have h2 : (f != f')=true:=by simpa using e1
    go_enter Tryz.func198,Tryz.ntmps198
    go_wp2
    go_ret;exact ⟨za6 (by simp [e1]),za3 (za3 (Below.refl _ _))⟩
theorem zqt (v1 v2 : Value) (xs ys : List (Int × Int × Int)) (w : World) (h1 : ReadsR 3 zak w.heap.size w v1 xs) (h2 : ReadsR 3 zak w.heap.size w v2 ys) :
    Calls Tryz.prog 179 #[v1,v2] w fun e w'=>e = .returned (.bool (decide (xs=ys)))/\Below w.heap.size w w':=by
  obtain ⟨o1,cap1,rfl,m1,c1,-⟩:=h1;obtain ⟨o2,cap2,rfl,m2,c2,-⟩:=h2;by_cases hlen : xs.length=ys.length
  · rw [<- hlen]
    have C1 : Hid _:=zcn c1;have C2 : Hid _:=zcn c2;have HL : Hid (xs.length=ys.length):=hlen;have hle : ys.length<=xs.length:=by omega
    have hge : xs.length<=ys.length:=by omega
    unfold maxLen at m1;clear c1 c2 m2 hlen
    go_enter Tryz.func179,Tryz.ntmps179
    go_wp2
    go_loopw [5] (fun i wr=>∃ k : Nat,k<=xs.length/\i = .int .i64 k/\xs.take k=ys.take k/\Below w.heap.size w wr) (fun i _=>xs.length - (intOf i).toNat)
    case atStart=>exact ⟨0,Nat.zero_le _,rfl,rfl,Below.refl _ _⟩
    case round =>
      obtain ⟨k,hk,rfl,htk,hb⟩:=hrel;have HT : Hid (xs.take k=ys.take k):=htk;clear htk;by_cases hlt : k < xs.length
      · have hlt2 : k < ys.length:=by omega
        obtain ⟨g1,of1,rfl,q1,a0,a1,a2⟩:=C1.out k hlt;obtain ⟨g2,of2,rfl,q2,b0,b1,b2⟩:=C2.out k hlt2;have HE : Hid (xs[k]=ys[k]->xs.take (k+1)=ys.take (k+1)):=fun e=>ziv xs ys k hlt hlt2 HT.out e
        have HNE : Hid (xs[k] ≠ ys[k]->¬ xs=ys):=fun e=>zv0 xs ys k hlt hlt2 e
        generalize xs[k]=x at a0 a1 a2 HE HNE;generalize ys[k]=y at b0 b1 b2 HE HNE;obtain ⟨f,c,p⟩:=x;obtain ⟨f',c',p'⟩:=y;simp only at a0 a1 a2 b0 b1 b2;have hne:=BelowOf.any wr;have l1 : g1 < wr.heap.size:=Nat.lt_of_lt_of_le q1 hb.size;have l2 : g2 < wr.heap.size:=Nat.lt_of_lt_of_le q2 hb.size;have d0:=BelowOf.cell ((hb.cell (p:=⟨g1,of1+k * 3,none⟩) q1).trans a0) l1;have d1:=BelowOf.cell ((hb.cell (p:=⟨g1,of1+k * 3+1,none⟩) q1).trans a1) l1;have d2:=BelowOf.cell ((hb.cell (p:=⟨g1,of1+k * 3+2,none⟩) q1).trans a2) l1;have f0:=BelowOf.cell ((hb.cell (p:=⟨g2,of2+k * 3,none⟩) q2).trans b0) l2;have f1:=BelowOf.cell ((hb.cell (p:=⟨g2,of2+k * 3+1,none⟩) q2).trans b1) l2;have f2:=BelowOf.cell ((hb.cell (p:=⟨g2,of2+k * 3+2,none⟩) q2).trans b2) l2;have g1' : (0 : Int)<=(k : Int):=by omega
        have g2' : (k : Int) < (xs.length : Int):=by omega
        clear a0 a1 a2 b0 b1 b2 C1 C2
        obtain ⟨dd,hdd⟩ : ∃ dd,decide ((f,c,p)=(f',c',p'))=dd:=⟨_,rfl⟩
        have HD : Hid _:=hdd;have HEQ : ∀ q : BelowOf wr,Calls Tryz.prog 198 #[.agg #[.int .i64 f,.int .i64 c,.int .i64 p],.agg #[.int .i64 f',.int .i64 c',.int .i64 p']] q.w' fun e w'=>e = .returned (.bool dd)/\Below q.w'.heap.size q.w' w':=fun q=>by have h:=zsq f c p f' c' p' q.w';rwa [hdd] at h
        clear hdd
        go_wp2_with fail
        refine zad (by kernel_rfl) (by kernel_rfl) ?_
        repeat (go_big_quiet_step ((first | (go_at_call 198;exact zb1 (HEQ _)) | rfl)))
        refine wpQuiet_nil ?_;intro w5 hw5;obtain ⟨⟨wx,cx⟩,hwx⟩:=hw5;have b5 : Below wr.heap.size wr w5:=by rw [hwx];exact cx
        have hb5:=hb.trans (b5.mono hb.size);clear hwx cx wx hne d0 d1 d2 f0 f1 f2 HEQ;cases dd
        · go_wp2_with fail
          go_ret;exact ⟨za6 (decide_eq_false (HNE.out (of_decide_eq_false HD.out))).symm,hb5⟩
        · have HT2 : Hid _:=HE.out (of_decide_eq_true HD.out)
          go_wp2_with fail
          go_roundw
          case rel=>exact ⟨k+1,by omega,by go_num,HT2.out,hb5⟩
          case measure=>simp [intOf];omega
      · go_wp2
        go_ret;exact ⟨za6 (by simp [ziw xs ys k hlt HL.out HT.out]),hb⟩
  · have hn : ((xs.length : Int) != (ys.length : Int))=true:=by rw [bne_iff_ne];omega
    have HX : Hid (decide (xs=ys)=false):=by rw [Hid,decide_eq_false_iff_not];intro e;rw [e] at hlen;exact hlen rfl
    unfold maxLen at m1 m2;clear hlen c1 c2
    go_enter Tryz.func179,Tryz.ntmps179
    go_wp2
    go_ret;exact ⟨za6 HX.out.symm,Below.refl _ _⟩
theorem zwy {w : World} {base g n cap : Nat} {xs : List (Int × Int × Int)} (h : w.ownsRow base 172 3 (.slice (some ⟨g,0,none⟩) n cap) xs.length (xs.flatMap zak)) (i : Nat) (hi : i < xs.length) (f c p : Int) :
    (((w.setCell ⟨g,i * 3,none⟩ (.int .i64 f)).setCell ⟨g,i * 3+1,none⟩ (.int .i64 c)).setCell ⟨g,i * 3+2,none⟩ (.int .i64 p)).ownsRow base 172 3 (.slice (some ⟨g,0,none⟩) n cap) (xs.set i (f,c,p)).length ((xs.set i (f,c,p)).flatMap zak):=by
  have h1:=zb2 zat h i 0 xs[i] (f,xs[i].2.1,xs[i].2.2) (.int .i64 f) (List.getElem?_eq_getElem hi) (by omega) rfl;have h2:=zb2 zat h1 i 1 (f,xs[i].2.1,xs[i].2.2) (f,c,xs[i].2.2) (.int .i64 c) (by simp [hi]) (by omega) rfl;have h3:=zb2 zat h2 i 2 (f,c,xs[i].2.2) (f,c,p) (.int .i64 p) (by simp [hi]) (by omega) rfl;rw [List.set_set,List.set_set] at h3;exact h3
theorem zfp {w : World} {base g n cap : Nat} {xs : List (Int × Int × Int)} (h : w.ownsRow base 172 3 (.slice (some ⟨g,0,none⟩) n cap) xs.length (xs.flatMap zak)) (i : Nat) (hi : i < xs.length) :
    (w.cell? ⟨g,i * 3,none⟩=some (.int .i64 xs[i].1)/\w.cell? ⟨g,i * 3+1,none⟩=some (.int .i64 xs[i].2.1)/\w.cell? ⟨g,i * 3+2,none⟩=some (.int .i64 xs[i].2.2))/\w.frozen? ⟨g,i * 3,none⟩=false/\w.frozen? ⟨g,i * 3+1,none⟩=false/\w.frozen? ⟨g,i * 3+2,none⟩=false:=by
  obtain ⟨a0,b0⟩:=zbn zat h i 0 _ (List.getElem?_eq_getElem hi) (by omega);obtain ⟨a1,b1⟩:=zbn zat h i 1 _ (List.getElem?_eq_getElem hi) (by omega);obtain ⟨a2,b2⟩:=zbn zat h i 2 _ (List.getElem?_eq_getElem hi) (by omega);exact ⟨⟨a0,a1,a2⟩,b0,b1,b2⟩
def zbo (k : Int) (n : Nat) : List (Int × Int × Int):=(List.range n).map fun i : Nat=>(k+3 * (i : Int),k+3 * (i : Int)+1,k+3 * (i : Int)+1+1)
theorem marksR_length (k : Int) (n : Nat) : (zbo k n).length=n:=by simp [zbo]
theorem zqu (k : Int) (n j : Nat) (h : j < (zbo k n).length) : (zbo k n)[j]=(k+3 * (j : Int),k+3 * (j : Int)+1,k+3 * (j : Int)+1+1):=by simp [zbo]
theorem zqv (k : Int) (xs : List (Int × Int × Int)) (j : Nat) (h : j < xs.length) : (zbo k j ++ xs.drop j).set j (k+3 * (j : Int),k+3 * (j : Int)+1,k+3 * (j : Int)+1+1)=zbo k (j+1) ++ xs.drop (j+1):=by
  have hl : (zbo k j).length=j:=marksR_length k j;have hs : zbo k (j+1)=zbo k j ++ [(k+3 * (j : Int),k+3 * (j : Int)+1,k+3 * (j : Int)+1+1)]:=by simp [zbo,List.range_succ]
  rw [List.set_append_right _ _ (by omega),hl,Nat.sub_self,List.drop_eq_getElem_cons h,List.set_cons_zero,hs];exact (List.append_assoc _ [_] _).symm
theorem zoq (g cap n base : Nat) (k : Int) (xs : List (Int × Int × Int)) (w : World) (hk : 0<=k) (hk2 : k<=1073741824) (hx : xs.length=n) (hn : n<=1048576) (own : w.ownsRow base 172 3 (.slice (some ⟨g,0,none⟩) n cap) xs.length (xs.flatMap zak)) :
    Calls Tryz.prog 154 #[.slice (some ⟨g,0,none⟩) n cap,.int .i64 k] w fun e w'=>e = .returned (.int .i64 (k+3 * n))/\w'.ownsRow base 172 3 (.slice (some ⟨g,0,none⟩) n cap) (zbo k n).length ((zbo k n).flatMap zak)/\Upto g w w':=by
  have HX : Hid (xs.length=n):=hx;have hx1 : n<=xs.length:=by omega
  clear hx
  go_enter Tryz.func154,Tryz.ntmps154
  go_wp2
  go_loopw [1,5] (fun q i wr=>∃ j : Nat,j<=n/\i = .int .i64 j/\q = .int .i64 (k+3 * j)/\wr.ownsRow base 172 3 (.slice (some ⟨g,0,none⟩) n cap) (zbo k j ++ xs.drop j).length ((zbo k j ++ xs.drop j).flatMap zak)/\Upto g w wr) (fun _ i _=>n - (intOf i).toNat)
  case atStart=>exact ⟨0,Nat.zero_le _,rfl,by simp,by simpa [zbo] using own,Upto.refl _ _⟩
  case round =>
    obtain ⟨j,hj,rfl,rfl,ow,u⟩:=hrel;clear own;by_cases hlt : j < n
    · have hjl : j < (zbo k j ++ xs.drop j).length:=by rw [List.length_append,marksR_length,List.length_drop];omega
      obtain ⟨⟨t0,t1,t2⟩,u0,u1,u2⟩:=zfp ow j hjl;have HST:=zwy ow j hjl (k+3 * (j : Int)) (k+3 * (j : Int)+1) (k+3 * (j : Int)+1+1);rw [zqv k xs j (by omega)] at HST;have uf : Upto g w (((wr.setCell ⟨g,j * 3,none⟩ (.int .i64 (k+3 * (j : Int)))).setCell ⟨g,j * 3+1,none⟩ (.int .i64 (k+3 * (j : Int)+1))).setCell ⟨g,j * 3+2,none⟩ (.int .i64 (k+3 * (j : Int)+1+1))):=((u.setCell _ (.inl rfl) _).setCell _ (.inl rfl) _).setCell _ (.inl rfl) _;have HO : Hid _:=And.intro HST uf;generalize (zbo k j ++ xs.drop j)[j]=y at t0 t1 t2;clear HST uf ow u
      go_wp2_with fail
      go_roundw
      case rel=>exact ⟨j+1,by omega,by go_num,by go_num,HO.out.1,HO.out.2⟩
      case measure=>simp [intOf];omega
    · obtain rfl : j=n:=by omega
      rw [List.drop_of_length_le (by have:=HX.out;omega),List.append_nil] at ow
      go_wp2_with fail
      go_ret;exact ⟨rfl,ow,u⟩
theorem zkr (v : Value) (base : Nat) (k : Int) (xs : List (Int × Int × Int)) (w : World) (hk : 0<=k) (hk2 : k<=1073741824) (hn : xs.length<=1048576) (hbase : base<=w.heap.size) (own : w.ownsRow base 172 3 v xs.length (xs.flatMap zak)) :
    Calls Tryz.prog 154 #[v,.int .i64 k] w fun e w'=>e = .returned (.int .i64 (k+3 * xs.length))/\w'.ownsRow base 172 3 v (zbo k xs.length).length ((zbo k xs.length).flatMap zak)/\Below base w w'/\w.heap.size<=w'.heap.size/\∀ i,i < w.heap.size->v.ownBlock ≠ some i->w'.heap[i]? = w.heap[i]?:=by
  rcases own.2 with ⟨rfl,h0⟩ | ⟨g,cap,cur,rfl,hg,_⟩
  · have hx : xs = []:=List.length_eq_zero_iff.1 h0
    subst hx
    go_enter Tryz.func154,Tryz.ntmps154
    go_wp2
    refine wp_loop_rounds 1 ?_;rw [rounds_succ]
    go_wp2
    go_ret;exact ⟨zam (by simp),World.ownsRow_nil _ _ _ _,Below.refl _ _,Nat.le_refl _,fun _ _ _=>rfl⟩
  · refine (zoq g cap xs.length base k xs w hk hk2 rfl hn own).mono ?_
    rintro e w' ⟨he,ho,hu⟩;exact ⟨he,ho,hu.toBelow hbase hg,hu.size,fun i hi hn=>hu.block i hi (fun e=>hn (by rw [e];rfl))⟩
theorem zsr (v : Value) (n : Nat) (k : Int) (w : World) (hk : 0<=k) (hk2 : k<=1073741824) (hn : n<=1048576) (hr : ReadsR 3 zak w.heap.size w v (zbo k n)) :
    Calls Tryz.prog 155 #[v,.int .i64 k] w fun e w'=>e = .returned (.int .i64 (k+3 * n))/\Below w.heap.size w w':=by
  obtain ⟨o,cap,rfl,hm,hc,-⟩:=hr;have HC : Hid _:=zcn hc;rw [marksR_length] at hm ⊢;clear hc hm
  go_enter Tryz.func155,Tryz.ntmps155
  go_wp2
  go_loopw [1,5] (fun q i wr=>∃ j : Nat,j<=n/\i = .int .i64 j/\q = .int .i64 (k+3 * j)/\wr=w) (fun _ i _=>n - (intOf i).toNat)
  case atStart=>exact ⟨0,Nat.zero_le _,rfl,by simp,rfl⟩
  case round =>
    obtain ⟨j,hj,rfl,rfl,rfl⟩:=hrel;by_cases hlt : j < n
    · have hjl : j < (zbo k n).length:=by rw [marksR_length];exact hlt
      obtain ⟨g,off,rfl,hg,a0,a1,a2⟩:=HC.out j hjl;rw [zqu k n j hjl] at a0 a1 a2;simp only at a0 a1 a2;clear HC hjl
      go_wp2
      go_roundw
      case rel=>exact ⟨j+1,by omega,by go_num,by go_num,by trivial⟩
      case measure=>simp [intOf];omega
    · obtain rfl : j=n:=by omega
      go_wp2_with fail
      go_ret;exact ⟨rfl,Below.refl _ _⟩
end Go.Proofs.YtfkkapdofjhgpaaGreatDoor
namespace Go.Proofs.YtfkkapdofjhgpaaGreatDoor
set_option linter.unusedVariables false
set_option maxRecDepth 100000
def I64 (x : Int) : Prop:=-9223372036854775808<=x/\x<=9223372036854775807
def zb9 (rs : List (Int × Int × Int)) : Prop:=∀ r ∈ rs,I64 r.1/\I64 r.2.1/\I64 r.2.2
def zi7 (e : Int) (pv : Option (Int × Int × Int)) (r : Int × Int × Int) : Bool :=
  decide (e<=r.1) && (decide (1<=r.2.1) && decide (r.2.1<=16)) && decide (r.1<=16 - r.2.1) && (decide (0<=r.2.2) && decide (r.2.2<=24 - r.2.1)) &&
    !(match pv with | none=>false | some q=>decide (r.1=e) && decide (r.2.2=q.2.2+q.2.1))
def okFrom : Int->Option (Int × Int × Int)->List (Int × Int × Int)->Bool
  | _,_,[]=>true
  | e,pv,r :: rs=>zi7 e pv r && okFrom (r.1+r.2.1) (some r) rs
def mapOk (rs : List (Int × Int × Int)) : Bool:=okFrom 0 none rs && decide (rs.length<=16)
theorem zby (e : Int) (pv : Option (Int × Int × Int)) (f c p : Int) : zi7 e pv (f,c,p)=true ↔ (e<=f/\1<=c/\c<=16/\f<=16 - c/\0<=p/\p<=24 - c/\∀ q,pv=some q->¬ (f=e/\p=q.2.2+q.2.1)):=by
  cases pv with
  | none=>simp [zi7];omega
  | some q =>
    simp only [zi7,Bool.and_eq_true,decide_eq_true_eq,Bool.not_eq_true',Bool.and_eq_false_iff,decide_eq_false_iff_not,Option.some.injEq]
    constructor
    · rintro ⟨⟨⟨⟨h1,h2⟩,h3⟩,h4⟩,h5⟩
      refine ⟨h1,h2.1,h2.2,h3,h4.1,h4.2,?_⟩;rintro _ rfl ⟨h6,h7⟩;rcases h5 with h5 | h5
      · exact h5 h6
      · exact h5 h7
    · rintro ⟨h1,h2,h3,h4,h5,h6,h7⟩
      refine ⟨⟨⟨⟨h1,h2,h3⟩,h4⟩,h5,h6⟩,?_⟩;by_cases h8 : f=e
      · exact .inr (fun h9=>h7 q rfl ⟨h8,h9⟩)
      · exact .inl h8
def lay (l : List Int) (f : Nat) (p : Int) : Nat->List Int
  | 0=>l
  | n+1=>(lay l f p n).set (f+n) (p+n)
def zc8 (l : List Int) (r : Int × Int × Int) : List Int:=lay l r.1.toNat r.2.2 r.2.1.toNat
def none16 : List Int:=List.replicate 16 (-1)
def za7 (rs : List (Int × Int × Int)) : List Int:=rs.foldl zc8 none16
theorem zg2 (l : List Int) (f : Nat) (p : Int) (n : Nat) : (lay l f p n).length=l.length:=by
  induction n with
  | zero=>rfl
  | succ n ih=>rw [lay,List.length_set,ih]
theorem zfi (l : List Int) (r : Int × Int × Int) : (zc8 l r).length=l.length:=zg2 _ _ _ _
theorem zg3 (rs : List (Int × Int × Int)) (l : List Int) : (rs.foldl zc8 l).length=l.length:=by
  induction rs generalizing l with
  | nil=>rfl
  | cons r rs ih=>rw [List.foldl_cons,ih,zfi]
theorem zac (rs : List (Int × Int × Int)) : (za7 rs).length=16:=by rw [za7,zg3];rfl
theorem zi8 (l : List Int) (f : Nat) (p : Int) (n j : Nat) (h : f+n<=l.length) : (lay l f p n).getD j 0=if f<=j/\j < f+n then p+((j - f : Nat) : Int) else l.getD j 0:=by
  induction n with
  | zero=>rw [lay,if_neg (by omega)]
  | succ n ih =>
    have hl:=zg2 l f p n;rw [lay,List.getD_eq_getElem?_getD,List.getElem?_set,hl];by_cases e : f+n=j
    · rw [if_pos e,if_pos (by omega),if_pos (by omega)]
      show p+(n : Int) = _
      rw [show j - f=n by omega]
    · rw [if_neg e,<- List.getD_eq_getElem?_getD,ih (by omega)]
      by_cases q : f<=j/\j < f+n
      · rw [if_pos q,if_pos (by omega)]
      · rw [if_neg q,if_neg (by omega)]
def zhv (k : Nat) (v : Int) (acc : List (Int × Int × Int)) : List (Int × Int × Int) :=
  if v < 0 then acc else
  match acc.getLast? with
  | none=>acc ++ [((k : Int),1,v)]
  | some r=>if r.1+r.2.1=k/\r.2.2+r.2.1=v then acc.dropLast ++ [(r.1,r.2.1+1,r.2.2)] else acc ++ [((k : Int),1,v)]
def upto (l : List Int) : Nat->List (Int × Int × Int)
  | 0=>[]
  | n+1=>zhv n (l.getD n 0) (upto l n)
def mapOf (l : List Int) : List (Int × Int × Int):=upto l l.length
theorem zfj (e : Int) (pv : Option (Int × Int × Int)) (rs : List (Int × Int × Int)) (r : Int × Int × Int) :
    okFrom e pv (rs ++ [r])=(okFrom e pv rs && zi7 (match rs.getLast? with | none=>e | some q=>q.1+q.2.1) (match rs.getLast? with | none=>pv | some q=>some q) r):=by
  induction rs generalizing e pv with
  | nil=>simp [okFrom]
  | cons q rs ih =>
    rw [List.cons_append,okFrom,ih,okFrom,Bool.and_assoc]
    cases rs with
    | nil=>simp
    | cons s t =>
      rw [List.getLast?_cons_cons]
      cases h : (s :: t).getLast? with
      | none=>simp at h
      | some z=>rfl
structure UptoOk (l : List Int) (n : Nat) (rs : List (Int × Int × Int)) : Prop where
  ok : okFrom 0 none rs=true
  endAt : ∀ r,rs.getLast? = some r->r.1+r.2.1<=n/\0<=r.1/\1<=r.2.1/\0<=r.2.2
  shows : ∀ j,(za7 rs).getD j 0=if j < n then l.getD j 0 else none16.getD j 0
  few : rs.length<=n
theorem zhw (rs : List (Int × Int × Int)) (r : Int × Int × Int) : za7 (rs ++ [r])=zc8 (za7 rs) r:=by rw [za7,List.foldl_append];rfl
theorem zv2 (l : List Int) (k : Nat) (v : Int) (j : Nat) (h : k < l.length) : (zc8 l ((k : Int),1,v)).getD j 0=if j=k then v else l.getD j 0:=by
  show (lay l (k : Int).toNat v (1 : Int).toNat).getD j 0 = _
  rw [Int.toNat_natCast,show (1 : Int).toNat=1 from rfl,zi8 l k v 1 j (by omega)];by_cases e : j=k
  · rw [if_pos (by omega),if_pos e,show j - k=0 by omega];simp
  · rw [if_neg (by omega),if_neg e]
theorem znv (l : List Int) (hl : l.length=16) (hv : ∀ j,j < 16->-1<=l.getD j 0/\l.getD j 0<=23) (n : Nat) (hn : n<=16) : UptoOk l n (upto l n):=by
  induction n with
  | zero=>exact ⟨rfl,fun r h=>by simp [upto] at h,fun j=>by rw [if_neg (by omega)];rfl,Nat.le_refl _⟩
  | succ n ih =>
    have h:=ih (by omega);have hvn:=hv n (by omega);rw [upto];generalize upto l n=rs at h;have hpl:=zac rs
    have hat : (za7 rs).getD n 0 = -1:=by
      rw [h.shows n,if_neg (by omega)];have h16 : n=0\/n=1\/n=2\/n=3\/n=4\/n=5\/n=6\/n=7\/n=8\/n=9\/n=10\/n=11\/n=12\/n=13\/n=14\/n=15:=by omega
      rcases h16 with rfl | rfl | rfl | rfl | rfl | rfl | rfl | rfl | rfl | rfl | rfl | rfl | rfl | rfl | rfl | rfl <;> rfl
    have shows' : ∀ rs' : List (Int × Int × Int),(∀ j,(za7 rs').getD j 0=if j=n then l.getD n 0 else (za7 rs).getD j 0)->∀ j,(za7 rs').getD j 0=if j < n+1 then l.getD j 0 else none16.getD j 0:=fun rs' hj j=>by
      rw [hj j,h.shows j];by_cases e : j=n
      · rw [if_pos e,if_pos (by omega),e]
      · rw [if_neg e]
        by_cases q : j < n
        · rw [if_pos q,if_pos (by omega)]
        · rw [if_neg q,if_neg (by omega)]
    unfold zhv;by_cases hneg : l.getD n 0 < 0
    · rw [if_pos hneg]
      refine ⟨h.ok,fun r hr=>by have:=h.endAt r hr;omega,shows' rs (fun j=>?_),by have:=h.few;omega⟩;by_cases e : j=n
      · rw [if_pos e,e,hat];omega
      · rw [if_neg e]
    · rw [if_neg hneg]
      have new : (∀ r,rs.getLast? = some r->¬ (r.1+r.2.1=(n : Int)/\r.2.2+r.2.1=l.getD n 0))->UptoOk l (n+1) (rs ++ [((n : Int),1,l.getD n 0)]):=fun hno=>by
        refine ⟨?_,fun r hr=>?_,shows' _ (fun j=>?_),by have:=h.few;simp;omega⟩
        · rw [zfj,h.ok,Bool.true_and,zby]
          cases hg : rs.getLast? with
          | none=>exact ⟨by simp,by omega,by omega,by omega,by omega,by omega,fun q hq=>by cases hq⟩
          | some r =>
            have he:=h.endAt r hg;refine ⟨by simp;omega,by omega,by omega,by omega,by omega,by omega,fun q hq hh=>?_⟩;simp only [Option.some.injEq] at hq;subst hq;exact hno r hg ⟨hh.1.symm,hh.2.symm⟩
        · rw [List.getLast?_concat,Option.some.injEq] at hr
          subst hr;simp only
          omega
        · rw [zhw,zv2 _ _ _ _ (by omega)]
      cases hg : rs.getLast? with
      | none=>exact new (fun r hr=>by rw [hg] at hr;cases hr)
      | some r =>
        simp only;by_cases hc : r.1+r.2.1=(n : Int)/\r.2.2+r.2.1=l.getD n 0
        · rw [if_pos hc]
          have he:=h.endAt r hg
          obtain ⟨pre,rfl⟩ : ∃ pre,rs=pre ++ [r]:=⟨rs.dropLast,by
            have hne : rs ≠ []:=fun e=>by rw [e] at hg;cases hg
            rw [List.getLast?_eq_some_getLast hne] at hg;have:=List.dropLast_concat_getLast hne;simp only [Option.some.injEq] at hg;rw [hg] at this
            exact this.symm⟩
          rw [List.dropLast_concat];obtain ⟨f,c,p⟩:=r;simp only at he hc ⊢;have hok:=h.ok;rw [zfj,Bool.and_eq_true,zby] at hok;refine ⟨?_,fun s hs=>?_,shows' _ (fun j=>?_),by have:=h.few;simp at this ⊢;omega⟩
          · rw [zfj,Bool.and_eq_true,zby]
            exact ⟨hok.1,hok.2.1,by omega,by omega,by omega,by omega,by omega,hok.2.2.2.2.2.2.2⟩
          · rw [List.getLast?_concat,Option.some.injEq] at hs
            subst hs;simp only
            omega
          · rw [zhw,zhw]
            have hc1 : (c+1).toNat=c.toNat+1:=by omega
            have hpl2:=zac pre
            show (lay (za7 pre) f.toNat p (c+1).toNat).getD j 0=if j=n then _ else (lay (za7 pre) f.toNat p c.toNat).getD j 0
            rw [hc1,zi8 _ _ _ _ _ (by omega),zi8 _ _ _ _ _ (by omega)];by_cases e : j=n
            · rw [if_pos e,if_pos (by omega)]
              omega
            · rw [if_neg e]
              by_cases q : f.toNat<=j/\j < f.toNat+c.toNat
              · rw [if_pos q,if_pos (by omega)]
              · rw [if_neg q,if_neg (by omega)]
        · rw [if_neg hc]
          exact new (fun s hs=>by rw [hg] at hs;simp only [Option.some.injEq] at hs;subst hs;exact hc)
theorem zs9 (a b : List Int) (ha : a.length=16) (hb : b.length=16) (h : ∀ j,j < 16->a.getD j 0=b.getD j 0) : a=b:=by
  apply List.ext_getElem (by omega)
  intro j h1 h2;have:=h j (by omega);rw [List.getD_eq_getElem?_getD,List.getD_eq_getElem?_getD,List.getElem?_eq_getElem h1,List.getElem?_eq_getElem h2] at this;exact this
theorem zks (l : List Int) (hl : l.length=16) (hv : ∀ j,j < 16->-1<=l.getD j 0/\l.getD j 0<=23) : mapOk (mapOf l)=true/\za7 (mapOf l)=l:=by
  have h:=znv l hl hv 16 (Nat.le_refl _);rw [mapOf,hl];refine ⟨?_,zs9 _ _ (zac _) hl fun j hj=>by rw [h.shows j,if_pos hj]⟩;rw [mapOk,h.ok,Bool.true_and,decide_eq_true_iff];exact h.few
theorem zix (rs : List (Int × Int × Int)) (e : Int) (pv : Option (Int × Int × Int)) (h : okFrom e pv rs=true) (l : List Int) (hl : l.length=16) (hv : ∀ j,j < 16->-1<=l.getD j 0/\l.getD j 0<=23) (he : 0<=e) : ∀ j,j < 16->-1<=(rs.foldl zc8 l).getD j 0/\(rs.foldl zc8 l).getD j 0<=23:=by
  induction rs generalizing e pv l with
  | nil=>exact hv
  | cons r rs ih =>
    obtain ⟨f,c,p⟩:=r;rw [okFrom,Bool.and_eq_true,zby] at h;rw [List.foldl_cons];refine ih _ _ h.2 _ (by rw [zfi];exact hl) (fun j hj=>?_) (by simp only;omega)
    show -1<=(lay l f.toNat p c.toNat).getD j 0/\(lay l f.toNat p c.toNat).getD j 0<=23
    rw [zi8 _ _ _ _ _ (by omega)];by_cases q : f.toNat<=j/\j < f.toNat+c.toNat
    · rw [if_pos q];omega
    · rw [if_neg q];exact hv j hj
theorem zh8 (j : Nat) (hj : j < 16) : none16.getD j 0 = -1:=by
  have h16 : j=0\/j=1\/j=2\/j=3\/j=4\/j=5\/j=6\/j=7\/j=8\/j=9\/j=10\/j=11\/j=12\/j=13\/j=14\/j=15:=by omega
  rcases h16 with rfl | rfl | rfl | rfl | rfl | rfl | rfl | rfl | rfl | rfl | rfl | rfl | rfl | rfl | rfl | rfl <;> rfl
theorem zcq {rs : List (Int × Int × Int)} (h : mapOk rs=true) : okFrom 0 none rs=true:=by rw [mapOk,Bool.and_eq_true] at h;exact h.1
theorem zbg (rs : List (Int × Int × Int)) (h : mapOk rs=true) (j : Nat) (hj : j < 16) : -1<=(za7 rs).getD j 0/\(za7 rs).getD j 0<=23 :=
  zix rs 0 none (zcq h) none16 rfl (fun j hj=>by rw [zh8 j hj];omega) (by omega) j hj
theorem zh9 (l : List Int) (k n : Nat) (h : ∀ j,k<=j->j < k+n->l.getD j 0 < 0) : upto l (k+n)=upto l k:=by
  induction n with
  | zero=>rfl
  | succ n ih =>
    rw [<- Nat.add_assoc,upto,ih (fun j h1 h2=>h j h1 (by omega))];unfold zhv;rw [if_pos (h (k+n) (by omega) (by omega))]
theorem zss (l : List Int) (k n : Nat) (pre : List (Int × Int × Int)) (f c p : Int) (hp : 0<=p) (hc : 0<=c) (hk : upto l k=pre ++ [(f,c,p)]) (he : f+c=k) (h : ∀ i,i < n->l.getD (k+i) 0=p+c+i) : upto l (k+n)=pre ++ [(f,c+n,p)]:=by
  induction n with
  | zero=>simpa using hk
  | succ n ih =>
    rw [<- Nat.add_assoc,upto,ih (fun i hi=>h i (by omega)),h n (by omega)];unfold zhv;rw [if_neg (by omega),List.getLast?_concat];simp only;rw [if_pos ⟨by omega,by omega⟩,List.dropLast_concat,show c+(n : Int)+1=c+((n+1 : Nat) : Int) by omega]
theorem zst (l : List Int) (rs : List (Int × Int × Int)) (e : Nat) (acc : List (Int × Int × Int)) (hacc : upto l e=acc) (h : okFrom (e : Int) acc.getLast? rs=true) (hlast : ∀ r,acc.getLast? = some r->r.1+r.2.1=(e : Int)) (he : e<=16)
    (hin : ∀ r ∈ rs,∀ i : Nat,(i : Int) < r.2.1->l.getD (r.1.toNat+i) 0=r.2.2+i) (hout : ∀ j,e<=j->j < 16->(∀ r ∈ rs,¬ (r.1<=(j : Int)/\(j : Int) < r.1+r.2.1))->l.getD j 0 < 0) : upto l 16=acc ++ rs:=by
  induction rs generalizing e acc with
  | nil =>
    have:=zh9 l e (16 - e) (fun j h1 h2=>hout j h1 (by omega) (fun r hr=>by cases hr));rw [show e+(16 - e)=16 by omega] at this;rw [this,hacc,List.append_nil]
  | cons r rs ih =>
    obtain ⟨f,c,p⟩:=r;rw [okFrom,Bool.and_eq_true,zby] at h;obtain ⟨⟨h1,h2,h3,h4,h5,h6,h7⟩,h8⟩:=h
    have hlater : ∀ (rs : List (Int × Int × Int)) (e : Int) (pv : Option (Int × Int × Int)),okFrom e pv rs=true->∀ s ∈ rs,e<=s.1:=by
      intro rs
      induction rs with
      | nil=>intro e pv _ s hs;cases hs
      | cons q qs ih2 =>
        intro e pv hq s hs;obtain ⟨qf,qc,qp⟩:=q;rw [okFrom,Bool.and_eq_true,zby] at hq;rcases List.mem_cons.1 hs with rfl | hs
        · exact hq.1.1
        · have:=ih2 _ _ hq.2 s hs
          simp only at this
          omega
    have hl2:=hlater rs _ _ h8;simp only at h8 hl2;obtain ⟨F,rfl⟩:=Int.eq_ofNat_of_zero_le (show 0<=f by omega);obtain ⟨C,rfl⟩:=Int.eq_ofNat_of_zero_le (show 0<=c by omega);have hF : e<=F:=by omega
    have s1 : upto l F=acc:=by
      have:=zh9 l e (F - e) (fun j q1 q2=>hout j q1 (by omega) (fun r hr=>by
        rcases List.mem_cons.1 hr with rfl | hr
        · simp only;omega
        · have:=hl2 r hr;omega))
      rw [show e+(F - e)=F by omega] at this;rw [this,hacc]
    have s2 : upto l (F+1)=acc ++ [((F : Int),1,p)]:=by
      have hv : l.getD F 0=p:=by
        have:=hin ((F : Int),(C : Int),p) (List.mem_cons_self ..) 0 (by simp only;omega)
        simpa using this
      rw [upto,s1,hv];unfold zhv;rw [if_neg (by omega)]
      cases hg : acc.getLast? with
      | none=>rfl
      | some q =>
        simp only;rw [if_neg];rintro ⟨q1,q2⟩;have hq:=hlast q hg;exact h7 q hg ⟨by omega,by omega⟩
    have s3:=zss l (F+1) (C - 1) acc (F : Int) 1 p h5 (by omega) s2 (by omega) (fun i hi=>by
      have:=hin ((F : Int),(C : Int),p) (List.mem_cons_self ..) (1+i) (by simp only;omega);simp only [Int.toNat_natCast] at this;rw [Nat.add_assoc,this]
      omega)
    rw [show F+1+(C - 1)=F+C by omega,show (1 : Int)+((C - 1 : Nat) : Int)=(C : Int) by omega] at s3
    have:=ih (F+C) (acc ++ [((F : Int),(C : Int),p)]) s3 (by rw [List.getLast?_concat];rw [show ((F+C : Nat) : Int)=(F : Int)+(C : Int) by omega];exact h8) (fun r hr=>by
      rw [List.getLast?_concat,Option.some.injEq] at hr;subst hr;simp only
      omega) (by omega) (fun r hr=>hin r (List.mem_cons_of_mem _ hr)) (fun j q1 q2 q3=>hout j (by omega) q2 (fun r hr=>by
        rcases List.mem_cons.1 hr with rfl | hr
        · simp only;omega
        · exact q3 r hr))
    rw [this,List.append_assoc]
    rfl
theorem zsa (rs : List (Int × Int × Int)) (e : Int) (pv : Option (Int × Int × Int)) (h : okFrom e pv rs=true) (he : 0<=e) (l : List Int) (hl : l.length=16) :
    (∀ j : Nat,(∀ r ∈ rs,¬ (r.1<=(j : Int)/\(j : Int) < r.1+r.2.1))->(rs.foldl zc8 l).getD j 0=l.getD j 0)/\∀ r ∈ rs,∀ i : Nat,(i : Int) < r.2.1->(rs.foldl zc8 l).getD (r.1.toNat+i) 0=r.2.2+i:=by
  induction rs generalizing e pv l with
  | nil=>exact ⟨fun j _=>rfl,fun r hr=>by cases hr⟩
  | cons r rs ih =>
    obtain ⟨f,c,p⟩:=r;rw [okFrom,Bool.and_eq_true,zby] at h;obtain ⟨⟨h1,h2,h3,h4,h5,h6,h7⟩,h8⟩:=h
    have hlater : ∀ (rs : List (Int × Int × Int)) (e : Int) (pv : Option (Int × Int × Int)),okFrom e pv rs=true->∀ s ∈ rs,e<=s.1:=by
      intro rs
      induction rs with
      | nil=>intro e pv _ s hs;cases hs
      | cons q qs ih2 =>
        intro e pv hq s hs;obtain ⟨qf,qc,qp⟩:=q;rw [okFrom,Bool.and_eq_true,zby] at hq;rcases List.mem_cons.1 hs with rfl | hs
        · exact hq.1.1
        · have:=ih2 _ _ hq.2 s hs
          simp only at this
          omega
    have hl2:=hlater rs _ _ h8;simp only at hl2;obtain ⟨i1,i2⟩:=ih _ _ h8 (by simp only;omega) (zc8 l (f,c,p)) (by rw [zfi];exact hl);rw [List.foldl_cons];have hw : ∀ j : Nat,(zc8 l (f,c,p)).getD j 0=if f.toNat<=j/\j < f.toNat+c.toNat then p+((j - f.toNat : Nat) : Int) else l.getD j 0:=fun j=>zi8 l f.toNat p c.toNat j (by omega)
    refine ⟨fun j hj=>?_,fun s hs i hi=>?_⟩
    · rw [i1 j (fun r hr=>hj r (List.mem_cons_of_mem _ hr)),hw j,if_neg]
      have:=hj (f,c,p) (List.mem_cons_self ..);simp only at this
      omega
    · rcases List.mem_cons.1 hs with rfl | hs
      · simp only at hi ⊢
        rw [i1 _ (fun r hr=>by have:=hl2 r hr;omega),hw,if_pos (by omega)]
        congr 1
        omega
      · exact i2 s hs i hi
theorem zjl (rs : List (Int × Int × Int)) (h : mapOk rs=true) : mapOf (za7 rs)=rs:=by
  obtain ⟨h1,h2⟩:=zsa rs 0 none (zcq h) (by omega) none16 rfl;rw [mapOf,zac]
  have:=zst (za7 rs) rs 0 [] rfl (zcq h) (fun r hr=>by cases hr) (by omega) h2 (fun j _ hj hno=>by
    show (rs.foldl zc8 none16).getD j 0 < 0
    rw [h1 j hno,zh8 j hj]
    omega)
  rwa [List.nil_append] at this
end Go.Proofs.YtfkkapdofjhgpaaGreatDoor
namespace Go.Proofs.YtfkkapdofjhgpaaGreatDoor
open Go.RowKit
set_option linter.unusedVariables false
set_option maxRecDepth 100000
def prevOf (rs : List (Int × Int × Int)) (k : Nat) : Option (Int × Int × Int):=if k=0 then none else rs[k - 1]?
theorem zor (rs : List (Int × Int × Int)) (e : Int) (k : Nat) (h : k < rs.length) : okFrom e (prevOf rs k) (rs.drop k)=(zi7 e (prevOf rs k) rs[k] && okFrom (rs[k].1+rs[k].2.1) (prevOf rs (k+1)) (rs.drop (k+1))):=by
  rw [List.drop_eq_getElem_cons h,okFrom,prevOf,prevOf,if_neg (by omega : ¬ k+1=0),Nat.add_sub_cancel,List.getElem?_eq_getElem h]
theorem zgk (e : Int) (pv : Option (Int × Int × Int)) (f c p : Int) (h : ¬ (e<=f/\1<=c/\c<=16/\f<=16 - c/\0<=p/\p<=24 - c/\∀ q,pv=some q->¬ (f=e/\p=q.2.2+q.2.1))) : zi7 e pv (f,c,p)=false:=by
  rw [Bool.eq_false_iff];exact fun q=>h ((zby e pv f c p).1 q)
end Go.Proofs.YtfkkapdofjhgpaaGreatDoor
