import Derived.Test.YtfkkapdofjhgpaaGreatDoorM03
import Derived.Test.YtfkkapdofjhgpaaGreatDoorM22
import Derived.Test.YtfkkapdofjhgpaaGreatDoorM43
set_option maxHeartbeats 12800000
namespace Go.Proofs.YtfkkapdofjhgpaaGreatDoor
open Go.RowKit
set_option linter.unusedVariables false
set_option maxRecDepth 100000
theorem Tryz.infoEntry : (Tryz.prog.info? 39).map (fun i=>(i.zero,i.size,i.bytes))=some (some (.agg #[.int .i64 0,.int .i64 0,.int .i64 0,.int .i64 0,.string ByteArray.empty,.string ByteArray.empty,.int .i64 0,.int .i64 0,.int .i64 0]),9,88):=by kernel_rfl
theorem zoo (n : Nat) (hn : n<=1048576) : ∃ M : Array Value,(∀ W : World,(Instr.makeSlice 24 (.int .i64 (n : Int)) (.int .i64 (n : Int))).run Tryz.prog W = .ok (.slice (some ⟨W.heap.size,0,none⟩) n n) (W.alloc (.cells M 39))) /\
    ∀ (W : World) (base : Nat),base<=W.heap.size->(W.alloc (.cells M 39)).ownsRow base 39 9 (.slice (some ⟨W.heap.size,0,none⟩) n n) (List.replicate n Ent.zero).length ((List.replicate n Ent.zero).flatMap zbs):=by
  obtain ⟨i0,hi,hz0,hz1,hz2⟩:=info_parts Tryz.infoEntry;have e:=zjk (cs:=zbs) zay (by omega) Ent.zero (Value.agg #[.int .i64 0,.int .i64 0,.int .i64 0,.int .i64 0,.string ByteArray.empty,.string ByteArray.empty,.int .i64 0,.int .i64 0,.int .i64 0]).cells rfl n;refine ⟨madeCells (Value.agg #[.int .i64 0,.int .i64 0,.int .i64 0,.int .i64 0,.string ByteArray.empty,.string ByteArray.empty,.int .i64 0,.int .i64 0,.int .i64 0]).cells (n * 9),fun W=>?_,fun W base hb=>?_⟩
  · have h:=run_make (P:=Tryz.prog) W 24 39 i0 (.agg #[.int .i64 0,.int .i64 0,.int .i64 0,.int .i64 0,.string ByteArray.empty,.string ByteArray.empty,.int .i64 0,.int .i64 0,.int .i64 0]) Tryz.underlying24 hi hz0 .i64 .i64 (n : Int) (n : Int) (by omega) (by omega) (by rw [hz2];omega) (by omega)
    rw [hz1,Int.toNat_natCast] at h
    simpa using h
  · have h:=World.ownsRow_lit (base:=base) (size:=9) (e:=39) W (madeCells (Value.agg #[.int .i64 0,.int .i64 0,.int .i64 0,.int .i64 0,.string ByteArray.empty,.string ByteArray.empty,.int .i64 0,.int .i64 0,.int .i64 0]).cells (n * 9)) n hb (by unfold maxLen;omega) (by rw [size_madeCells])
    rw [e] at h
    rwa [List.length_replicate]
theorem zux {w : World} {base g n cap : Nat} {xs : List Ent} (h : w.ownsRow base 39 9 (.slice (some ⟨g,0,none⟩) n cap) xs.length (xs.flatMap zbs)) (i : Nat) (hi : i < xs.length) (y : Ent) :
    (((((((((w.setCell ⟨g,i * 9,none⟩ (.int .i64 y.sq)).setCell ⟨g,i * 9+1,none⟩ (.int .i64 y.cl)).setCell ⟨g,i * 9+2,none⟩ (.int .i64 y.tg)).setCell ⟨g,i * 9+3,none⟩ (.int .i64 y.o.k)).setCell ⟨g,i * 9+4,none⟩ (.string y.o.nm)).setCell ⟨g,i * 9+5,none⟩ (.string y.o.ot)).setCell ⟨g,i * 9+6,none⟩ (.int .i64 y.o.at_)).setCell ⟨g,i * 9+7,none⟩ (.int .i64 y.o.va)).setCell ⟨g,i * 9+8,none⟩ (.int .i64 y.o.ep)).ownsRow base 39 9 (.slice (some ⟨g,0,none⟩) n cap) (xs.set i y).length ((xs.set i y).flatMap zbs):=by
  obtain ⟨x,hx⟩ : ∃ x,xs[i]=x:=⟨_,rfl⟩
  have hxi : xs[i]? = some x:=by rw [List.getElem?_eq_getElem hi,hx]
  have h0:=zb2 zay h i 0 x ⟨y.sq,x.cl,x.tg,⟨x.o.k,x.o.nm,x.o.ot,x.o.at_,x.o.va,x.o.ep⟩⟩ (.int .i64 y.sq) hxi (by omega) rfl;have h1:=zb2 zay h0 i 1 ⟨y.sq,x.cl,x.tg,⟨x.o.k,x.o.nm,x.o.ot,x.o.at_,x.o.va,x.o.ep⟩⟩ ⟨y.sq,y.cl,x.tg,⟨x.o.k,x.o.nm,x.o.ot,x.o.at_,x.o.va,x.o.ep⟩⟩ (.int .i64 y.cl) (by simp [hi]) (by omega) rfl;have h2:=zb2 zay h1 i 2 ⟨y.sq,y.cl,x.tg,⟨x.o.k,x.o.nm,x.o.ot,x.o.at_,x.o.va,x.o.ep⟩⟩ ⟨y.sq,y.cl,y.tg,⟨x.o.k,x.o.nm,x.o.ot,x.o.at_,x.o.va,x.o.ep⟩⟩ (.int .i64 y.tg) (by simp [hi]) (by omega) rfl;have h3:=zb2 zay h2 i 3 ⟨y.sq,y.cl,y.tg,⟨x.o.k,x.o.nm,x.o.ot,x.o.at_,x.o.va,x.o.ep⟩⟩ ⟨y.sq,y.cl,y.tg,⟨y.o.k,x.o.nm,x.o.ot,x.o.at_,x.o.va,x.o.ep⟩⟩ (.int .i64 y.o.k) (by simp [hi]) (by omega) rfl;have h4:=zb2 zay h3 i 4 ⟨y.sq,y.cl,y.tg,⟨y.o.k,x.o.nm,x.o.ot,x.o.at_,x.o.va,x.o.ep⟩⟩ ⟨y.sq,y.cl,y.tg,⟨y.o.k,y.o.nm,x.o.ot,x.o.at_,x.o.va,x.o.ep⟩⟩ (.string y.o.nm) (by simp [hi]) (by omega) rfl;have h5:=zb2 zay h4 i 5 ⟨y.sq,y.cl,y.tg,⟨y.o.k,y.o.nm,x.o.ot,x.o.at_,x.o.va,x.o.ep⟩⟩ ⟨y.sq,y.cl,y.tg,⟨y.o.k,y.o.nm,y.o.ot,x.o.at_,x.o.va,x.o.ep⟩⟩ (.string y.o.ot) (by simp [hi]) (by omega) rfl;have h6:=zb2 zay h5 i 6 ⟨y.sq,y.cl,y.tg,⟨y.o.k,y.o.nm,y.o.ot,x.o.at_,x.o.va,x.o.ep⟩⟩ ⟨y.sq,y.cl,y.tg,⟨y.o.k,y.o.nm,y.o.ot,y.o.at_,x.o.va,x.o.ep⟩⟩ (.int .i64 y.o.at_) (by simp [hi]) (by omega) rfl;have h7:=zb2 zay h6 i 7 ⟨y.sq,y.cl,y.tg,⟨y.o.k,y.o.nm,y.o.ot,y.o.at_,x.o.va,x.o.ep⟩⟩ ⟨y.sq,y.cl,y.tg,⟨y.o.k,y.o.nm,y.o.ot,y.o.at_,y.o.va,x.o.ep⟩⟩ (.int .i64 y.o.va) (by simp [hi]) (by omega) rfl;have h8:=zb2 zay h7 i 8 ⟨y.sq,y.cl,y.tg,⟨y.o.k,y.o.nm,y.o.ot,y.o.at_,y.o.va,x.o.ep⟩⟩ y (.int .i64 y.o.ep) (by simp [hi]) (by omega) rfl;rw [List.set_set,List.set_set,List.set_set,List.set_set,List.set_set,List.set_set,List.set_set,List.set_set] at h8;exact h8
theorem zit {w : World} {base g n cap : Nat} {xs : List Ent} (h : w.ownsRow base 39 9 (.slice (some ⟨g,0,none⟩) n cap) xs.length (xs.flatMap zbs)) (i : Nat) (hi : i < xs.length) :
    (w.cell? ⟨g,i * 9,none⟩=some (.int .i64 xs[i].sq)/\w.cell? ⟨g,i * 9+1,none⟩=some (.int .i64 xs[i].cl)/\w.cell? ⟨g,i * 9+2,none⟩=some (.int .i64 xs[i].tg)/\w.cell? ⟨g,i * 9+3,none⟩=some (.int .i64 xs[i].o.k)/\w.cell? ⟨g,i * 9+4,none⟩=some (.string xs[i].o.nm)/\w.cell? ⟨g,i * 9+5,none⟩=some (.string xs[i].o.ot)/\w.cell? ⟨g,i * 9+6,none⟩=some (.int .i64 xs[i].o.at_)/\w.cell? ⟨g,i * 9+7,none⟩=some (.int .i64 xs[i].o.va)/\w.cell? ⟨g,i * 9+8,none⟩=some (.int .i64 xs[i].o.ep))/\w.frozen? ⟨g,i * 9,none⟩=false/\w.frozen? ⟨g,i * 9+1,none⟩=false/\w.frozen? ⟨g,i * 9+2,none⟩=false/\w.frozen? ⟨g,i * 9+3,none⟩=false/\w.frozen? ⟨g,i * 9+4,none⟩=false/\w.frozen? ⟨g,i * 9+5,none⟩=false/\w.frozen? ⟨g,i * 9+6,none⟩=false/\w.frozen? ⟨g,i * 9+7,none⟩=false/\w.frozen? ⟨g,i * 9+8,none⟩=false:=by
  obtain ⟨a0,b0⟩:=zbn zay h i 0 _ (List.getElem?_eq_getElem hi) (by omega);obtain ⟨a1,b1⟩:=zbn zay h i 1 _ (List.getElem?_eq_getElem hi) (by omega);obtain ⟨a2,b2⟩:=zbn zay h i 2 _ (List.getElem?_eq_getElem hi) (by omega);obtain ⟨a3,b3⟩:=zbn zay h i 3 _ (List.getElem?_eq_getElem hi) (by omega);obtain ⟨a4,b4⟩:=zbn zay h i 4 _ (List.getElem?_eq_getElem hi) (by omega);obtain ⟨a5,b5⟩:=zbn zay h i 5 _ (List.getElem?_eq_getElem hi) (by omega);obtain ⟨a6,b6⟩:=zbn zay h i 6 _ (List.getElem?_eq_getElem hi) (by omega);obtain ⟨a7,b7⟩:=zbn zay h i 7 _ (List.getElem?_eq_getElem hi) (by omega);obtain ⟨a8,b8⟩:=zbn zay h i 8 _ (List.getElem?_eq_getElem hi) (by omega);exact ⟨⟨a0,a1,a2,a3,a4,a5,a6,a7,a8⟩,b0,b1,b2,b3,b4,b5,b6,b7,b8⟩
theorem zed (v : Value) (bs : List Ent) (w : World) (hn : bs.length<=1048576) (r : ReadsR 9 zbs w.heap.size w v bs) :
    Calls Tryz.prog 35 #[v] w fun e w'=>e = .returned (.slice (some ⟨w.heap.size,0,none⟩) bs.length bs.length)/\w'.ownsRow w.heap.size 39 9 (.slice (some ⟨w.heap.size,0,none⟩) bs.length bs.length) bs.length (bs.flatMap zbs)/\Below w.heap.size w w':=by
  obtain ⟨o,cap,rfl,hm,hc,-⟩:=r;have HC : Hid _:=zd6 hc;obtain ⟨M,hmk,hown⟩:=zoo bs.length hn;have own0:=hown w w.heap.size (Nat.le_refl _);have bd0 : Below w.heap.size w (w.alloc (.cells M 39)):=za3 (Below.refl _ _);clear hown hc hm
  go_enter Tryz.func35,Tryz.ntmps35
  go_wp2_with fail
  generalize w.alloc (.cells M 39)=W0 at own0 bd0 ⊢;generalize hzs : List.replicate bs.length Ent.zero=zs at own0;have hzl : zs.length=bs.length:=by rw [<- hzs];simp
  clear hmk hzs
  go_loopw [4] (fun i wr=>∃ j : Nat,j<=bs.length/\i = .int .i64 j/\wr.ownsRow w.heap.size 39 9 (.slice (some ⟨w.heap.size,0,none⟩) bs.length bs.length) (bs.take j ++ zs.drop j).length ((bs.take j ++ zs.drop j).flatMap zbs)/\Below w.heap.size w wr/\w.heap.size < wr.heap.size) (fun i _=>bs.length - (intOf i).toNat)
  case atStart=>exact ⟨0,Nat.zero_le _,rfl,by simpa using own0,bd0,(own0.lt _ rfl).2⟩
  case round =>
    obtain ⟨j,hj,rfl,own,hb,hsz⟩:=hrel;by_cases hlt : j < bs.length
    · obtain ⟨g,off,rfl,hg,a0,a1,a2,a3,a4,a5,a6,a7,a8⟩:=HC.out j hlt
      have hset : (bs.take j ++ zs.drop j).set j bs[j]=bs.take (j+1) ++ zs.drop (j+1):=by
        rw [List.set_append_right _ _ (by rw [List.length_take];omega),List.length_take,Nat.min_eq_left (by omega),Nat.sub_self,List.drop_eq_getElem_cons (show j < zs.length by omega),List.set_cons_zero,List.take_succ_eq_append_getElem hlt,List.append_assoc]
        rfl
      obtain ⟨x,hx⟩ : ∃ x,bs[j]=x:=⟨_,rfl⟩
      rw [hx] at a0 a1 a2 a3 a4 a5 a6 a7 a8 hset;clear hx HC;obtain ⟨sq,cl,tg,⟨k1,nm,ot,at_,va,ep⟩⟩:=x;simp only at a0 a1 a2 a3 a4 a5 a6 a7 a8;replace a0:=(hb.cell (p:=⟨g,off+j * 9,none⟩) hg).trans a0;replace a1:=(hb.cell (p:=⟨g,off+j * 9+1,none⟩) hg).trans a1;replace a2:=(hb.cell (p:=⟨g,off+j * 9+2,none⟩) hg).trans a2;replace a3:=(hb.cell (p:=⟨g,off+j * 9+3,none⟩) hg).trans a3;replace a4:=(hb.cell (p:=⟨g,off+j * 9+4,none⟩) hg).trans a4;replace a5:=(hb.cell (p:=⟨g,off+j * 9+5,none⟩) hg).trans a5;replace a6:=(hb.cell (p:=⟨g,off+j * 9+6,none⟩) hg).trans a6;replace a7:=(hb.cell (p:=⟨g,off+j * 9+7,none⟩) hg).trans a7;replace a8:=(hb.cell (p:=⟨g,off+j * 9+8,none⟩) hg).trans a8;have HO : Hid (wr.ownsRow w.heap.size 39 9 (.slice (some ⟨w.heap.size,0,none⟩) bs.length bs.length) (bs.take j ++ zs.drop j).length ((bs.take j ++ zs.drop j).flatMap zbs)):=own;clear own
      go_wp2_with fail
      refine (zqq sq cl tg k1 nm ot at_ va ep _).mono ?_;rintro e w5 ⟨rfl,b5⟩;have own5:=za9 HO.out b5;have hjl : j < (bs.take j ++ zs.drop j).length:=by simp;omega
      obtain ⟨⟨t0,t1,t2,t3,t4,t5,t6,t7,t8⟩,u0,u1,u2,u3,u4,u5,u6,u7,u8⟩:=zit own5 j hjl;have HST:=zux own5 j hjl ⟨sq,cl,tg,⟨k1,nm,ot,at_,va,ep⟩⟩;rw [hset] at HST;simp only at HST;have hs5 : w.heap.size < w5.heap.size:=Nat.lt_of_lt_of_le hsz b5.size;have uu : Upto w.heap.size w5 (((((((((w5.setCell ⟨w.heap.size,j * 9,none⟩ (.int .i64 sq)).setCell ⟨w.heap.size,j * 9+1,none⟩ (.int .i64 cl)).setCell ⟨w.heap.size,j * 9+2,none⟩ (.int .i64 tg)).setCell ⟨w.heap.size,j * 9+3,none⟩ (.int .i64 k1)).setCell ⟨w.heap.size,j * 9+4,none⟩ (.string nm)).setCell ⟨w.heap.size,j * 9+5,none⟩ (.string ot)).setCell ⟨w.heap.size,j * 9+6,none⟩ (.int .i64 at_)).setCell ⟨w.heap.size,j * 9+7,none⟩ (.int .i64 va)).setCell ⟨w.heap.size,j * 9+8,none⟩ (.int .i64 ep)):=(((((((((Upto.refl _ _).setCell ⟨w.heap.size,j * 9,none⟩ (.inl rfl) _).setCell ⟨w.heap.size,j * 9+1,none⟩ (.inl rfl) _).setCell ⟨w.heap.size,j * 9+2,none⟩ (.inl rfl) _).setCell ⟨w.heap.size,j * 9+3,none⟩ (.inl rfl) _).setCell ⟨w.heap.size,j * 9+4,none⟩ (.inl rfl) _).setCell ⟨w.heap.size,j * 9+5,none⟩ (.inl rfl) _).setCell ⟨w.heap.size,j * 9+6,none⟩ (.inl rfl) _).setCell ⟨w.heap.size,j * 9+7,none⟩ (.inl rfl) _).setCell ⟨w.heap.size,j * 9+8,none⟩ (.inl rfl) _;have hbf:=(za1 hb b5).trans (uu.toBelow (Nat.le_of_lt hs5) (Nat.le_refl _));have HF : Hid _:=And.intro HST (And.intro hbf (Nat.lt_of_lt_of_le hs5 uu.size));generalize (bs.take j ++ zs.drop j)[j]=y at t0 t1 t2 t3 t4 t5 t6 t7 t8;clear HST hbf uu own5 b5 HO hset hb hs5 a0 a1 a2 a3 a4 a5 a6 a7 a8
      go_wp2_with fail
      go_roundw
      case rel=>exact ⟨j+1,by omega,by go_num,HF.out⟩
      case measure=>simp [intOf];omega
    · have hjj : j=bs.length:=by omega
      have HF : Hid (wr.ownsRow w.heap.size 39 9 (.slice (some ⟨w.heap.size,0,none⟩) bs.length bs.length) bs.length (bs.flatMap zbs)):=by
        rw [hjj,List.take_length,List.drop_of_length_le (by omega),List.append_nil] at own;exact own
      clear own
      go_wp2_with fail
      go_ret;exact ⟨rfl,HF.out,hb⟩
theorem zm9 (v v' : Value) (bs : List Ent) (w : World) (r : ReadsR 9 zbs w.heap.size w v bs) (r' : ReadsR 9 zbs w.heap.size w v' bs) :
    Calls Tryz.prog 38 #[v,v'] w fun e w'=>e = .returned (.bool true)/\Below w.heap.size w w':=by
  obtain ⟨o1,cap1,rfl,m1,c1,-⟩:=r;obtain ⟨o2,cap2,rfl,m2,c2,-⟩:=r';have C1 : Hid _:=zd6 c1;have C2 : Hid _:=zd6 c2;unfold maxLen at m1;clear c1 c2 m2
  go_enter Tryz.func38,Tryz.ntmps38
  go_wp2
  go_loopw [5] (fun i wr=>∃ k : Nat,k<=bs.length/\i = .int .i64 k/\Below w.heap.size w wr) (fun i _=>bs.length - (intOf i).toNat)
  case atStart=>exact ⟨0,Nat.zero_le _,rfl,Below.refl _ _⟩
  case round =>
    obtain ⟨k,hk,rfl,hb⟩:=hrel;by_cases hlt : k < bs.length
    · obtain ⟨g1,of1,rfl,q1,a0,a1,a2,a3,a4,a5,a6,a7,a8⟩:=C1.out k hlt
      obtain ⟨g2,of2,rfl,q2,b0,b1,b2,b3,b4,b5,b6,b7,b8⟩:=C2.out k hlt;generalize bs[k]=x at a0 a1 a2 a3 a4 a5 a6 a7 a8 b0 b1 b2 b3 b4 b5 b6 b7 b8;obtain ⟨sq,cl,tg,⟨k1,nm,ot,at_,va,ep⟩⟩:=x;simp only at a0 a1 a2 a3 a4 a5 a6 a7 a8 b0 b1 b2 b3 b4 b5 b6 b7 b8;have hne:=BelowOf.any wr;have l1 : g1 < wr.heap.size:=Nat.lt_of_lt_of_le q1 hb.size;have l2 : g2 < wr.heap.size:=Nat.lt_of_lt_of_le q2 hb.size;have HEQ : ∀ q : BelowOf wr,Calls Tryz.prog 97 #[.agg #[.int .i64 sq,.int .i64 cl,.int .i64 tg,.int .i64 k1,.string nm,.string ot,.int .i64 at_,.int .i64 va,.int .i64 ep],.agg #[.int .i64 sq,.int .i64 cl,.int .i64 tg,.int .i64 k1,.string nm,.string ot,.int .i64 at_,.int .i64 va,.int .i64 ep]] q.w' fun e w'=>e = .returned (.bool true)/\Below q.w'.heap.size q.w' w':=fun q=>zon sq cl tg k1 nm ot at_ va ep q.w'
      have d0:=BelowOf.cell ((hb.cell (p:=⟨g1,of1+k * 9,none⟩) q1).trans a0) l1;have f0:=BelowOf.cell ((hb.cell (p:=⟨g2,of2+k * 9,none⟩) q2).trans b0) l2;have d1:=BelowOf.cell ((hb.cell (p:=⟨g1,of1+k * 9+1,none⟩) q1).trans a1) l1;have f1:=BelowOf.cell ((hb.cell (p:=⟨g2,of2+k * 9+1,none⟩) q2).trans b1) l2;have d2:=BelowOf.cell ((hb.cell (p:=⟨g1,of1+k * 9+2,none⟩) q1).trans a2) l1;have f2:=BelowOf.cell ((hb.cell (p:=⟨g2,of2+k * 9+2,none⟩) q2).trans b2) l2;have d3:=BelowOf.cell ((hb.cell (p:=⟨g1,of1+k * 9+3,none⟩) q1).trans a3) l1;have f3:=BelowOf.cell ((hb.cell (p:=⟨g2,of2+k * 9+3,none⟩) q2).trans b3) l2;have d4:=BelowOf.cell ((hb.cell (p:=⟨g1,of1+k * 9+4,none⟩) q1).trans a4) l1;have f4:=BelowOf.cell ((hb.cell (p:=⟨g2,of2+k * 9+4,none⟩) q2).trans b4) l2;have d5:=BelowOf.cell ((hb.cell (p:=⟨g1,of1+k * 9+5,none⟩) q1).trans a5) l1;have f5:=BelowOf.cell ((hb.cell (p:=⟨g2,of2+k * 9+5,none⟩) q2).trans b5) l2;have d6:=BelowOf.cell ((hb.cell (p:=⟨g1,of1+k * 9+6,none⟩) q1).trans a6) l1;have f6:=BelowOf.cell ((hb.cell (p:=⟨g2,of2+k * 9+6,none⟩) q2).trans b6) l2;have d7:=BelowOf.cell ((hb.cell (p:=⟨g1,of1+k * 9+7,none⟩) q1).trans a7) l1;have f7:=BelowOf.cell ((hb.cell (p:=⟨g2,of2+k * 9+7,none⟩) q2).trans b7) l2;have d8:=BelowOf.cell ((hb.cell (p:=⟨g1,of1+k * 9+8,none⟩) q1).trans a8) l1;have f8:=BelowOf.cell ((hb.cell (p:=⟨g2,of2+k * 9+8,none⟩) q2).trans b8) l2;have g1' : (0 : Int)<=(k : Int):=by omega
      have g2' : (k : Int) < (bs.length : Int):=by omega
      clear a0 a1 a2 a3 a4 a5 a6 a7 a8 b0 b1 b2 b3 b4 b5 b6 b7 b8 C1 C2
      go_wp2_with fail
      refine zad (by kernel_rfl) (by kernel_rfl) ?_
      repeat (go_big_quiet_step ((first | (go_at_call 97;exact zb1 (HEQ _)) | rfl)))
      refine wpQuiet_nil ?_;intro w5 hw5;obtain ⟨⟨wx,cx⟩,hwx⟩:=hw5;have b5 : Below wr.heap.size wr w5:=by rw [hwx];exact cx
      have hb5:=hb.trans (b5.mono hb.size);clear hwx cx wx hne d0 d1 d2 d3 d4 d5 d6 d7 d8 f0 f1 f2 f3 f4 f5 f6 f7 f8 HEQ
      go_wp2_with fail
      go_roundw
      case rel=>exact ⟨k+1,by omega,by go_num,hb5⟩
      case measure=>simp [intOf];omega
    · go_wp2
      go_ret;exact ⟨rfl,hb⟩
theorem zwv {w : World} {base g n cap : Nat} {xs : List Ent} (h : w.ownsRow base 39 9 (.slice (some ⟨g,0,none⟩) n cap) xs.length (xs.flatMap zbs)) (i : Nat) (hi : i < xs.length) (a b c d : Int) :
    ∃ ys : List Ent,ys.length=xs.length/\((((w.setCell ⟨g,i * 9,none⟩ (.int .i64 a)).setCell ⟨g,i * 9+1,none⟩ (.int .i64 b)).setCell ⟨g,i * 9+2,none⟩ (.int .i64 c)).setCell ⟨g,i * 9+3,none⟩ (.int .i64 d)).ownsRow base 39 9 (.slice (some ⟨g,0,none⟩) n cap) ys.length (ys.flatMap zbs):=by
  obtain ⟨x,hx⟩ : ∃ x,xs[i]=x:=⟨_,rfl⟩
  have hxi : xs[i]? = some x:=by rw [List.getElem?_eq_getElem hi,hx]
  have h0:=zb2 zay h i 0 x ⟨a,x.cl,x.tg,x.o⟩ (.int .i64 a) hxi (by omega) rfl;have h1:=zb2 zay h0 i 1 ⟨a,x.cl,x.tg,x.o⟩ ⟨a,b,x.tg,x.o⟩ (.int .i64 b) (by simp [hi]) (by omega) rfl;have h2:=zb2 zay h1 i 2 ⟨a,b,x.tg,x.o⟩ ⟨a,b,c,x.o⟩ (.int .i64 c) (by simp [hi]) (by omega) rfl;have h3:=zb2 zay h2 i 3 ⟨a,b,c,x.o⟩ ⟨a,b,c,⟨d,x.o.nm,x.o.ot,x.o.at_,x.o.va,x.o.ep⟩⟩ (.int .i64 d) (by simp [hi]) (by omega) rfl;exact ⟨_,by simp,h3⟩
theorem zww {w : World} {base g n cap : Nat} {xs : List Ent} (h : w.ownsRow base 39 9 (.slice (some ⟨g,0,none⟩) n cap) xs.length (xs.flatMap zbs)) (i : Nat) (hi : i < xs.length) (s : ByteArray) :
    ∃ ys : List Ent,ys.length=xs.length/\(w.setCell ⟨g,i * 9+4,none⟩ (.string s)).ownsRow base 39 9 (.slice (some ⟨g,0,none⟩) n cap) ys.length (ys.flatMap zbs):=by
  obtain ⟨x,hx⟩ : ∃ x,xs[i]=x:=⟨_,rfl⟩
  have hxi : xs[i]? = some x:=by rw [List.getElem?_eq_getElem hi,hx]
  have h0:=zb2 zay h i 4 x ⟨x.sq,x.cl,x.tg,⟨x.o.k,s,x.o.ot,x.o.at_,x.o.va,x.o.ep⟩⟩ (.string s) hxi (by omega) rfl;exact ⟨_,by simp,h0⟩
theorem zwx {w : World} {base g n cap : Nat} {xs : List Ent} (h : w.ownsRow base 39 9 (.slice (some ⟨g,0,none⟩) n cap) xs.length (xs.flatMap zbs)) (i : Nat) (hi : i < xs.length) (s : ByteArray) (a b c : Int) :
    ∃ ys : List Ent,ys.length=xs.length/\((((w.setCell ⟨g,i * 9+5,none⟩ (.string s)).setCell ⟨g,i * 9+6,none⟩ (.int .i64 a)).setCell ⟨g,i * 9+7,none⟩ (.int .i64 b)).setCell ⟨g,i * 9+8,none⟩ (.int .i64 c)).ownsRow base 39 9 (.slice (some ⟨g,0,none⟩) n cap) ys.length (ys.flatMap zbs):=by
  obtain ⟨x,hx⟩ : ∃ x,xs[i]=x:=⟨_,rfl⟩
  have hxi : xs[i]? = some x:=by rw [List.getElem?_eq_getElem hi,hx]
  have h0:=zb2 zay h i 5 x ⟨x.sq,x.cl,x.tg,⟨x.o.k,x.o.nm,s,x.o.at_,x.o.va,x.o.ep⟩⟩ (.string s) hxi (by omega) rfl;have h1:=zb2 zay h0 i 6 ⟨x.sq,x.cl,x.tg,⟨x.o.k,x.o.nm,s,x.o.at_,x.o.va,x.o.ep⟩⟩ ⟨x.sq,x.cl,x.tg,⟨x.o.k,x.o.nm,s,a,x.o.va,x.o.ep⟩⟩ (.int .i64 a) (by simp [hi]) (by omega) rfl;have h2:=zb2 zay h1 i 7 ⟨x.sq,x.cl,x.tg,⟨x.o.k,x.o.nm,s,a,x.o.va,x.o.ep⟩⟩ ⟨x.sq,x.cl,x.tg,⟨x.o.k,x.o.nm,s,a,b,x.o.ep⟩⟩ (.int .i64 b) (by simp [hi]) (by omega) rfl;have h3:=zb2 zay h2 i 8 ⟨x.sq,x.cl,x.tg,⟨x.o.k,x.o.nm,s,a,b,x.o.ep⟩⟩ ⟨x.sq,x.cl,x.tg,⟨x.o.k,x.o.nm,s,a,b,c⟩⟩ (.int .i64 c) (by simp [hi]) (by omega) rfl;exact ⟨_,by simp,h3⟩
theorem zqr (g cap n base : Nat) (k : Int) (xs : List Ent) (w : World) (hk : 0<=k) (hk2 : k<=1048576) (hx : xs.length=n) (hn : n<=1048576) (own : w.ownsRow base 39 9 (.slice (some ⟨g,0,none⟩) n cap) xs.length (xs.flatMap zbs)) :
    Calls Tryz.prog 39 #[.slice (some ⟨g,0,none⟩) n cap,.int .i64 k] w fun e w'=>e = .returned (.int .i64 (k+9 * n))/\Only (fun i=>i=g) w w':=by
  go_enter Tryz.func39,Tryz.ntmps39
  go_wp2
  go_loopw [1,5] (fun q i wr=>∃ (j : Nat) (K : Int) (ys : List Ent),j<=n/\i = .int .i64 j/\q = .int .i64 K/\K=k+9 * j/\ys.length=n/\wr.ownsRow base 39 9 (.slice (some ⟨g,0,none⟩) n cap) ys.length (ys.flatMap zbs)/\Only (fun i=>i=g) w wr) (fun _ i _=>n - (intOf i).toNat)
  case atStart=>exact ⟨0,k,xs,Nat.zero_le _,rfl,rfl,by simp,hx,own,Only.refl _ _⟩
  case round =>
    obtain ⟨j,K,ys,hj,rfl,rfl,hK,hyl,ow,on⟩:=hrel;have HK : Hid (K=k+9 * j):=hK;have HYL : Hid (ys.length=n):=hyl;clear own;by_cases hlt : j < n
    · have hK0 : 0<=K:=by omega
      have hK1 : K<=10485760:=by omega
      have hjl : j < ys.length:=by omega
      obtain ⟨⟨t0,t1,t2,t3,-⟩,u0,u1,u2,u3,-⟩:=zit ow j hjl;generalize ys[j]=y at t0 t1 t2 t3;have HO : Hid _:=ow;have HON : Hid _:=on;clear hK hyl ow on hx
      go_wp2_with fail
      refine (zeh _ _ ?hk).mono ?_
      case hk=>omega
      rintro e w5 ⟨rfl,b5⟩;obtain ⟨y2,hy2,ow1⟩:=zwv HO.out j hjl _ _ _ _;have ow2:=za9 ow1 b5;have on2:=((((HON.out.setCell ⟨g,j * 9,none⟩ rfl _).setCell ⟨g,j * 9+1,none⟩ rfl _).setCell ⟨g,j * 9+2,none⟩ rfl _).setCell ⟨g,j * 9+3,none⟩ rfl _).below b5;have hjl2 : j < y2.length:=by rw [hy2];exact hjl
      have HY2 : Hid (y2.length=ys.length):=hy2;obtain ⟨⟨-,-,-,-,t4,-⟩,-,-,-,-,u4,-⟩:=zit ow2 j hjl2;generalize y2[j]=yy at t4;have HO2 : Hid _:=ow2;have HON2 : Hid _:=on2;clear t0 t1 t2 t3 u0 u1 u2 u3 ow1 ow2 on2 b5 hy2 HO HON
      go_wp2_with fail
      refine (zeh _ _ ?hk).mono ?_
      case hk=>omega
      rintro e w6 ⟨rfl,b6⟩;obtain ⟨y3,hy3,ow3⟩:=zww HO2.out j hjl2 _;have ow4:=za9 ow3 b6;have on4:=(HON2.out.setCell ⟨g,j * 9+4,none⟩ rfl _).below b6;have hjl3 : j < y3.length:=by rw [hy3];exact hjl2
      have HY3 : Hid (y3.length=y2.length):=hy3;obtain ⟨⟨-,-,-,-,-,t5,t6,t7,t8⟩,-,-,-,-,-,u5,u6,u7,u8⟩:=zit ow4 j hjl3;generalize y3[j]=yz at t5 t6 t7 t8;have HO4 : Hid _:=ow4;have HON4 : Hid _:=on4;clear t4 u4 ow3 ow4 on4 b6 hy3 HO2 HON2
      go_wp2_with fail
      go_roundw
      case rel =>
        obtain ⟨y5,hy5,ow5⟩:=zwx HO4.out j hjl3 _ _ _ _;exact ⟨j+1,_,y5,by omega,by go_num,rfl,by have:=HK.out;omega,by rw [hy5,HY3.out,HY2.out,HYL.out],ow5,(((HON4.out.setCell ⟨g,j * 9+5,none⟩ rfl _).setCell ⟨g,j * 9+6,none⟩ rfl _).setCell ⟨g,j * 9+7,none⟩ rfl _).setCell ⟨g,j * 9+8,none⟩ rfl _⟩
      case measure=>simp [intOf];omega
    · obtain rfl : j=n:=by omega
      clear hK hyl hx ow
      go_wp2_with fail
      go_ret;exact ⟨zam HK.out,on⟩
theorem zki (v : Value) (base : Nat) (k : Int) (xs : List Ent) (w : World) (hk : 0<=k) (hk2 : k<=1048576) (hn : xs.length<=1048576) (own : w.ownsRow base 39 9 v xs.length (xs.flatMap zbs)) :
    Calls Tryz.prog 39 #[v,.int .i64 k] w fun e w'=>e = .returned (.int .i64 (k+9 * xs.length))/\Only (fun i=>v.ownBlock=some i) w w':=by
  rcases own.2 with ⟨rfl,h0⟩ | ⟨g,cap,cur,rfl,hg,_⟩
  · rw [h0]
    go_enter Tryz.func39,Tryz.ntmps39
    go_wp2
    refine wp_loop_rounds 1 ?_;rw [rounds_succ]
    go_wp2
    go_ret;exact ⟨zam (by simp),Only.refl _ _⟩
  · refine (zqr g cap xs.length base k xs w hk hk2 rfl hn own).mono ?_
    rintro e w' ⟨he,ho⟩;exact ⟨he,ho.mono (fun i h=>by rw [h];rfl)⟩
theorem zn2 (v1 v2 : Value) (cs : List Int) (ps : List (Int × Int)) (lo : Nat) (k : Int) (w : World) (hk : 0<=k) (hc : cs.length<=1048576) (hp : ps.length<=1048576) (hk2 : k<=1048576) (own : OwnM lo w v1 v2 cs ps) (hlo : lo<=w.heap.size) :
    Calls Tryz.prog 41 #[.agg #[v1,v2],.int .i64 k] w fun e w'=>e = .returned (.int .i64 (k+cs.length+2 * ps.length))/\OwnM lo w' v1 v2 (zb6 k cs.length) (zc6 (k+cs.length) ps.length)/\Only (fun i=>v1.ownBlock=some i\/v2.ownBlock=some i) w w':=by
  obtain ⟨W0,hW0,k0,d0,z0⟩:=zb4 w #[v1,v2] 33;have own0:=own.below d0;have HW0 : Hid (W0 = _):=hW0;have HA : Hid _:=own.apart;clear hW0 own
  go_enter Tryz.func41,Tryz.ntmps41
  go_wp2_with fail
  rw [<- HW0.out];clear HW0;have HB1 : Hid (v1.ownBlock ≠ some w.heap.size):=zaa own0.t k0 (by decide);have HB2 : Hid (v2.ownBlock ≠ some w.heap.size):=zaa own0.r k0 (by decide);refine (zew v1 cs.length lo k _ _ hk (by omega) (by omega) own0.t).mono ?_;rintro e w1 ⟨rfl,o1,b1,s1,f1⟩;have k01:=(f1 _ (by omega) HB1.out).trans k0;have o2 : w1.ownsRow lo 43 2 v2 ps.length (ps.flatMap zdm):=zai own0.r (fun g hg hv=>f1 g hg (fun h=>HA.out g h hv));have p1:=za0 k01 1
  have R1 : Only (fun i=>v1.ownBlock=some i\/v2.ownBlock=some i) w w1:=⟨b1.os.trans d0.os,b1.tape.trans d0.tape,b1.output.trans d0.output,by omega,fun i hi' hc=>(f1 i (by omega) (fun h=>hc (.inl h))).trans (d0.block i hi')⟩
  clear f1 k0 own0 b1 d0
  go_wp2_with fail
  clear p1;refine (zli v2 lo (k+cs.length) ps _ (by omega) (by omega) (by omega) (by omega) o2).mono ?_;rintro e w2 ⟨rfl,o3,b2,s2,f2⟩;have o4 : w2.ownsRow lo 2 1 v1 cs.length ((zb6 k cs.length).map (Value.int .i64)):=zai o1 (fun g hg hv=>f2 g hg (fun h=>HA.out g hv h));have R2 : Only (fun i=>v1.ownBlock=some i\/v2.ownBlock=some i) w w2:=R1.trans ⟨b2.os,b2.tape,b2.output,s2,fun i hi' hc=>f2 i hi' (fun h=>hc (.inr h))⟩
  have HO : Hid (OwnM lo w2 v1 v2 (zb6 k cs.length) (zc6 (k+cs.length) ps.length)):=⟨by rw [marksI_length];exact o4,o3⟩
  clear f2 o1 o2 o3 o4 b2 R1 k01
  go_wp2_with fail
  go_ret;exact ⟨rfl,HO.out,R2⟩
end Go.Proofs.YtfkkapdofjhgpaaGreatDoor
