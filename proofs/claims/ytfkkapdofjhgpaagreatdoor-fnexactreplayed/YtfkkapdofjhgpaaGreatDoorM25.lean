import Derived.Test.YtfkkapdofjhgpaaGreatDoorM05
import Derived.Test.YtfkkapdofjhgpaaGreatDoorM06
import Derived.Test.YtfkkapdofjhgpaaGreatDoorM08
import Derived.Test.YtfkkapdofjhgpaaGreatDoorM11
import Derived.Test.YtfkkapdofjhgpaaGreatDoorM17
import Derived.Test.YtfkkapdofjhgpaaGreatDoorM23
import Derived.Test.YtfkkapdofjhgpaaGreatDoorM24
set_option maxHeartbeats 12800000
namespace Go.Proofs.YtfkkapdofjhgpaaGreatDoor
open Go.RowKit
set_option linter.unusedVariables false
set_option maxRecDepth 100000
theorem zob (v v' : Value) (bs ms : List Bk) (w : World) (hp : ms.map zdk=bs.map zdk) (r : ReadsB w.heap.size w v bs) (r' : ReadsB w.heap.size w v' ms) :
    Calls Tryz.prog 94 #[v,v'] w fun e w'=>e = .returned (.bool true)/\Below w.heap.size w w':=by
  have RM : Hid _:=r.maps;have RM' : Hid _:=r'.maps;have hl:=zsx hp;have HP : Hid _:=hp;obtain ⟨o1,cap1,rfl,m1,c1,-⟩:=r.row;obtain ⟨o2,cap2,rfl,m2,c2,-⟩:=r'.row;have C1 : Hid _:=zbj c1;have C2 : Hid _:=zbj c2;have HL : Hid (ms.length=bs.length):=hl;rw [hl];unfold maxLen at m1;clear c1 c2 m2 r r' hp hl
  go_enter Tryz.func94,Tryz.ntmps94
  go_wp2
  go_loopw [5] (fun i wr=>∃ k : Nat,k<=bs.length/\i = .int .i64 k/\Below w.heap.size w wr) (fun i _=>bs.length - (intOf i).toNat)
  case atStart=>exact ⟨0,Nat.zero_le _,rfl,Below.refl _ _⟩
  case round =>
    obtain ⟨k,hk,rfl,hb⟩:=hrel;by_cases hlt : k < bs.length
    · have hlt2 : k < ms.length:=by have:=HL.out;omega
      obtain ⟨g1,of1,rfl,q1,a0,a1,a2,a3,a4⟩:=C1.out k hlt;obtain ⟨g2,of2,rfl,q2,b0,b1,b2,b3,b4⟩:=C2.out k hlt2;have rm:=(RM.out bs[k] (List.getElem_mem hlt)).below hb;have rm':=(RM'.out ms[k] (List.getElem_mem hlt2)).below hb;have hpk:=zv7 HP.out k hlt2 hlt;generalize bs[k]=x at a0 a1 a2 a3 a4 rm hpk;generalize ms[k]=y at b0 b1 b2 b3 b4 rm' hpk;obtain ⟨nm,sz,m,rs,fx,ep⟩:=x;obtain ⟨nm',sz',m',rs',fx',ep'⟩:=y;simp only [zdk,Prod.mk.injEq] at a0 a1 a2 a3 a4 b0 b1 b2 b3 b4 rm rm' hpk;obtain ⟨rfl,rfl,rfl,rfl,rfl⟩:=hpk;have hne:=BelowOf.any wr;have l1 : g1 < wr.heap.size:=Nat.lt_of_lt_of_le q1 hb.size;have l2 : g2 < wr.heap.size:=Nat.lt_of_lt_of_le q2 hb.size;have HEQ : ∀ q : BelowOf wr,Calls Tryz.prog 152 #[.agg #[.string nm',.int .i64 sz',m,.bool fx',.int .i64 ep'],.agg #[.string nm',.int .i64 sz',m',.bool fx',.int .i64 ep']] q.w' fun e w'=>e = .returned (.bool true)/\Below q.w'.heap.size q.w' w':=fun q=>zoz nm' sz' m m' rs' fx' ep' q.w' (rm.of hb.size q) (rm'.of hb.size q)
      have d0:=BelowOf.cell ((hb.cell (p:=⟨g1,of1+k * 5,none⟩) q1).trans a0) l1;have d1:=BelowOf.cell ((hb.cell (p:=⟨g1,of1+k * 5+1,none⟩) q1).trans a1) l1;have d2:=BelowOf.cell ((hb.cell (p:=⟨g1,of1+k * 5+2,none⟩) q1).trans a2) l1;have d3:=BelowOf.cell ((hb.cell (p:=⟨g1,of1+k * 5+3,none⟩) q1).trans a3) l1;have d4:=BelowOf.cell ((hb.cell (p:=⟨g1,of1+k * 5+4,none⟩) q1).trans a4) l1;have f0:=BelowOf.cell ((hb.cell (p:=⟨g2,of2+k * 5,none⟩) q2).trans b0) l2;have f1:=BelowOf.cell ((hb.cell (p:=⟨g2,of2+k * 5+1,none⟩) q2).trans b1) l2;have f2:=BelowOf.cell ((hb.cell (p:=⟨g2,of2+k * 5+2,none⟩) q2).trans b2) l2;have f3:=BelowOf.cell ((hb.cell (p:=⟨g2,of2+k * 5+3,none⟩) q2).trans b3) l2;have f4:=BelowOf.cell ((hb.cell (p:=⟨g2,of2+k * 5+4,none⟩) q2).trans b4) l2;have g1' : (0 : Int)<=(k : Int):=by omega
      have g2' : (k : Int) < (bs.length : Int):=by omega
      clear a0 a1 a2 a3 a4 b0 b1 b2 b3 b4 C1 C2 RM RM' rm rm' HP
      go_wp2_with fail
      refine zad (by kernel_rfl) (by kernel_rfl) ?_
      repeat (go_big_quiet_step ((first | (go_at_call 152;exact zb1 (HEQ _)) | rfl)))
      refine wpQuiet_nil ?_;intro w5 hw5;obtain ⟨⟨wx,cx⟩,hwx⟩:=hw5;have b5 : Below wr.heap.size wr w5:=by rw [hwx];exact cx
      have hb5:=hb.trans (b5.mono hb.size);clear hwx cx wx hne d0 d1 d2 d3 d4 f0 f1 f2 f3 f4 HEQ
      go_wp2_with fail
      go_roundw
      case rel=>exact ⟨k+1,by omega,by go_num,hb5⟩
      case measure=>simp [intOf];omega
    · go_wp2
      go_ret;exact ⟨rfl,hb⟩
structure RP (B : Nat) (w : World) (v1 v2 : Value) (cs ps : List Int) : Prop where
  c : Reads B w v1 (cs.map (Value.int .i64))
  p : Reads B w v2 (ps.map (Value.int .i64))
theorem RP.below {B : Nat} {w w' : World} {v1 v2 : Value} {cs ps : List Int} (h : RP B w v1 v2 cs ps) (k : Below B w w') : RP B w' v1 v2 cs ps:=⟨h.c.below k,h.p.below k⟩
theorem RP.mono {B B' : Nat} {w : World} {v1 v2 : Value} {cs ps : List Int} (h : RP B w v1 v2 cs ps) (k : B<=B') : RP B' w v1 v2 cs ps:=⟨h.c.mono k,h.p.mono k⟩
theorem RP.of {B : Nat} {W : World} {v1 v2 : Value} {cs ps : List Int} (h : RP B W v1 v2 cs ps) (y : B<=W.heap.size) (p : BelowOf W) : RP p.w'.heap.size p.w' v1 v2 cs ps:=((h.mono y).below p.h).mono p.h.size
theorem RP.forms {B : Nat} {w : World} {v1 v2 : Value} {cs ps : List Int} (h : RP B w v1 v2 cs ps) : ∃ o1 k1 o2 k2,v1 = .slice o1 cs.length k1/\v2 = .slice o2 ps.length k2:=by
  obtain ⟨⟨o,k,e,-⟩,⟨o',k',e',-⟩⟩:=h;exact ⟨o,k,o',k',by rw [e,List.length_map],by rw [e',List.length_map]⟩
theorem OwnP.reads {base : Nat} {w : World} {v1 v2 : Value} {cs ps : List Int} (h : OwnP base w v1 v2 cs ps) : RP w.heap.size w v1 v2 cs ps:=⟨h.r1,h.r2⟩
theorem OwnP.rng {lo hi base : Nat} {w w' : World} {v1 v2 : Value} {cs ps : List Int} (h : OwnP base w v1 v2 cs ps) (k : Rng lo hi w w') (hb : hi<=base) : OwnP base w' v1 v2 cs ps:=⟨zh7 h.c k hb,zh7 h.p k hb,h.apart⟩
theorem OwnP.span {base : Nat} {w : World} {v1 v2 : Value} {cs ps : List Int} (h : OwnP base w v1 v2 cs ps) : ∀ g,(v1.ownBlock=some g\/v2.ownBlock=some g)->base<=g/\g < w.heap.size:=by
  rintro g (h1 | h1)
  · exact h.c.lt g h1
  · exact h.p.lt g h1
theorem OwnP.forms {base : Nat} {w : World} {v1 v2 : Value} {cs ps : List Int} (h : OwnP base w v1 v2 cs ps) : ∃ o1 c1 o2 c2,v1 = .slice o1 cs.length c1/\v2 = .slice o2 ps.length c2:=by
  obtain ⟨o1,c1,h1⟩:=za4 h.c;obtain ⟨o2,c2,h2⟩:=za4 h.p;exact ⟨o1,c1,o2,c2,h1,h2⟩
theorem zru (a1 a2 b1 b2 : Value) (cs ps cs' ps' : List Int) (w : World) (r : RP w.heap.size w a1 a2 cs ps) (r' : RP w.heap.size w b1 b2 cs' ps') :
    Calls Tryz.prog 93 #[.agg #[a1,a2],.agg #[b1,b2]] w fun e w'=>e = .returned (.bool (decide (cs=cs') && decide (ps=ps')))/\Below w.heap.size w w':=by
  obtain ⟨W0,hW0,k0,k1,d0,z0⟩:=zc7 w #[a1,a2] #[b1,b2] 27 27;have r0:=(r.below d0).mono d0.size;have r1:=(r'.below d0).mono d0.size;have HW0 : Hid (W0 = _):=hW0;clear hW0 r r'
  go_enter Tryz.func93,Tryz.ntmps93
  go_wp2_with fail
  rw [<- HW0.out];clear HW0;refine (zhz a1 b1 cs cs' _ r0.c r1.c).mono ?_;rintro e w1 ⟨rfl,b⟩;replace k0:=(b.block _ (by omega)).trans k0;replace k1:=(b.block _ (by omega)).trans k1;replace d0:=za1 d0 b;replace r0:=(r0.below b).mono b.size;replace r1:=(r1.below b).mono b.size;have p0:=za0 k0 1;have p1:=za0 k1 1;by_cases hc : cs=cs'
  · rw [decide_eq_true hc]
    go_wp2_with fail
    refine (zhz a2 b2 ps ps' _ r0.p r1.p).mono ?_;rintro e w2 ⟨rfl,b2'⟩;replace d0:=za1 d0 b2';by_cases hp : ps=ps'
    · rw [decide_eq_true hp]
      have HC : Hid (cs=cs'):=hc;have HP : Hid (ps=ps'):=hp;clear hc hp
      go_wp2_with fail
      go_ret;exact ⟨za6 (by simp [HC.out,HP.out]),d0⟩
    · rw [decide_eq_false hp]
      have HP : Hid (¬ ps=ps'):=hp;clear hc hp
      go_wp2_with fail
      go_ret;exact ⟨za6 (by rw [decide_eq_false HP.out,Bool.and_false]),d0⟩
  · rw [decide_eq_false hc]
    have HP : Hid (¬ cs=cs'):=hc;clear hc
    go_wp2_with fail
    go_ret;exact ⟨za6 (by rw [decide_eq_false HP.out,Bool.false_and]),d0⟩
theorem zoc (v1 v2 : Value) (n m : Nat) (k : Int) (w : World) (hk : 0<=k) (hk2 : k<=1073741824) (hn : n<=1048576) (hm : m<=1048576) (r : RP w.heap.size w v1 v2 (zb6 k n) (zb6 (k+n) m)) :
    Calls Tryz.prog 103 #[.agg #[v1,v2],.int .i64 k] w fun e w'=>e = .returned (.int .i64 (k+n+m))/\Below w.heap.size w w':=by
  obtain ⟨W0,hW0,k0,d0,z0⟩:=zb4 w #[v1,v2] 27;have r0:=(r.below d0).mono d0.size;have HW0 : Hid (W0 = _):=hW0;clear hW0 r
  go_enter Tryz.func103,Tryz.ntmps103
  go_wp2_with fail
  rw [<- HW0.out];clear HW0;refine (zj5 v1 n k _ hk (by omega) r0.c).mono ?_;rintro e w1 ⟨rfl,b⟩;replace k0:=(b.block _ (by omega)).trans k0;replace d0:=za1 d0 b;replace r0:=(r0.below b).mono b.size;have p1:=za0 k0 1;have h1 : 0<=k+(n : Int):=by omega
  go_wp2_with fail
  refine (zj5 v2 m (k+n) _ h1 (by omega) r0.p).mono ?_;rintro e w2 ⟨rfl,b'⟩;replace d0:=za1 d0 b';have h2 : 0<=k+(n : Int)+(m : Int):=by omega
  go_wp2_with fail
  go_ret;exact ⟨rfl,d0⟩
structure RS (B : Nat) (w : World) (v1 v2 vb : Value) (cs ps : List Int) (bks : List Bk) : Prop where
  p : RP B w v1 v2 cs ps
  b : ReadsB B w vb bks
theorem RS.below {B : Nat} {w w' : World} {v1 v2 vb : Value} {cs ps : List Int} {bks : List Bk} (h : RS B w v1 v2 vb cs ps bks) (k : Below B w w') : RS B w' v1 v2 vb cs ps bks:=⟨h.p.below k,h.b.below k⟩
theorem RS.mono {B B' : Nat} {w : World} {v1 v2 vb : Value} {cs ps : List Int} {bks : List Bk} (h : RS B w v1 v2 vb cs ps bks) (k : B<=B') : RS B' w v1 v2 vb cs ps bks:=⟨h.p.mono k,h.b.mono k⟩
theorem RS.forms {B : Nat} {w : World} {v1 v2 vb : Value} {cs ps : List Int} {bks : List Bk} (h : RS B w v1 v2 vb cs ps bks) : ∃ o1 k1 o2 k2 ob kb,v1 = .slice o1 cs.length k1/\v2 = .slice o2 ps.length k2/\vb = .slice ob bks.length kb:=by
  obtain ⟨o1,k1,o2,k2,e1,e2⟩:=h.p.forms;obtain ⟨ob,kb,e3,-⟩:=h.b.row;exact ⟨o1,k1,o2,k2,ob,kb,e1,e2,e3⟩
structure OwnS (base : Nat) (w : World) (v1 v2 vb : Value) (cs ps : List Int) (bks : List Bk) : Prop where
  p : OwnP base w v1 v2 cs ps
  b : OwnB base w vb bks
  a : ApartM bks
theorem OwnS.below {base : Nat} {w w' : World} {v1 v2 vb : Value} {cs ps : List Int} {bks : List Bk} (h : OwnS base w v1 v2 vb cs ps bks) (k : Below w.heap.size w w') : OwnS base w' v1 v2 vb cs ps bks:=⟨h.p.below k,h.b.below k,h.a⟩
theorem OwnS.mono {base base' : Nat} {w : World} {v1 v2 vb : Value} {cs ps : List Int} {bks : List Bk} (h : OwnS base w v1 v2 vb cs ps bks) (k : base'<=base) : OwnS base' w v1 v2 vb cs ps bks:=⟨h.p.mono k,h.b.mono k,h.a⟩
theorem OwnS.reads {base : Nat} {w : World} {v1 v2 vb : Value} {cs ps : List Int} {bks : List Bk} (h : OwnS base w v1 v2 vb cs ps bks) : RS w.heap.size w v1 v2 vb cs ps bks:=⟨h.p.reads,h.b.reads⟩
theorem OwnS.upto {base c : Nat} {w w' : World} {v1 v2 vb : Value} {cs ps : List Int} {bks : List Bk} (h : OwnS base w v1 v2 vb cs ps bks) (u : Upto c w w') (hc : c < base) : OwnS base w' v1 v2 vb cs ps bks:=⟨h.p.upto u hc,h.b.upto u hc,h.a⟩
theorem OwnS.forms {base : Nat} {w : World} {v1 v2 vb : Value} {cs ps : List Int} {bks : List Bk} (h : OwnS base w v1 v2 vb cs ps bks) : ∃ o1 k1 o2 k2 ob kb,v1 = .slice o1 cs.length k1/\v2 = .slice o2 ps.length k2/\vb = .slice ob bks.length kb:=h.reads.forms
theorem zh2 {bs ms : List Bk} (h : ms.map Bk.pb=bs.map Bk.pb) : ms.map zdk=bs.map zdk:=by
  have:=congrArg (List.map (fun x : Pb=>(x.nm,x.sz,x.rs,x.fx,x.ep))) h;simp only [List.map_map] at this;exact this
theorem zgb (v1 v2 vb x1 x2 xb : Value) (cs ps : List Int) (bks ms : List Bk) (w : World) (hp : ms.map zdk=bks.map zdk) (r : RS w.heap.size w v1 v2 vb cs ps bks) (r' : RS w.heap.size w x1 x2 xb cs ps ms) :
    Calls Tryz.prog 36 #[.agg #[v1,v2,vb],.agg #[x1,x2,xb]] w fun e w'=>e = .returned (.bool true)/\Below w.heap.size w w':=by
  obtain ⟨o1,k1,o2,k2,ob,kb,rfl,rfl,rfl⟩:=r.forms;obtain ⟨o3,k3,o4,k4,oc,kc,rfl,rfl,rfl⟩:=r'.forms;obtain ⟨W0,hW0,kA,kB,d0,z0⟩:=zc7 w #[.slice o1 cs.length k1,.slice o2 ps.length k2,.slice ob bks.length kb] #[.slice o3 cs.length k3,.slice o4 ps.length k4,.slice oc ms.length kc] 30 30;have HW0 : Hid (W0 = _):=hW0;have HP : Hid _:=hp;have r0:=(r.below d0).mono d0.size;have r1:=(r'.below d0).mono d0.size;clear hW0 z0 r r' hp
  go_enter Tryz.func36,Tryz.ntmps36
  go_wp2_with fail
  rw [<- HW0.out];clear HW0;refine (zru _ _ _ _ cs ps cs ps _ r0.p r1.p).mono ?_;rintro e w1 ⟨rfl,b1⟩;replace kA:=kb0 b1 kA;replace kB:=kb0 b1 kB;replace d0:=za1 d0 b1;replace r0:=(r0.below b1).mono b1.size;replace r1:=(r1.below b1).mono b1.size;clear b1;have e1 : (decide (cs=cs) && decide (ps=ps))=true:=by simp
  have pA:=za0 kA 2;have pB:=za0 kB 2
  go_wp2_with fail
  clear pA pB;refine (zob _ _ bks ms _ HP.out r0.b r1.b).mono ?_;rintro e w2 ⟨rfl,b2⟩;replace d0:=za1 d0 b2;clear b2 kA kB r0 r1
  go_wp2_with fail
  go_ret;exact ⟨rfl,d0⟩
structure ChFacts (cs ps : List Int) (bks : List Bk) : Prop where
  few : bks.length<=6
  len : cs.length=ps.length
  c24 : cs.length<=24
  nm : ∀ b ∈ bks,b.nm.size<=4
  fit : ∀ b ∈ bks,zb9 b.rs
  rs : ∀ b ∈ bks,b.rs.length<=16
  srt : (bks.map Bk.nm).Pairwise (fun x y=>ltB x y=true)
  ep : ∀ b ∈ bks,0<=b.ep/\b.ep<=1000
  map : ∀ b ∈ bks,mapOk b.rs=true
theorem zw8 {rs : List (Int × Int × Int)} (h : mapOk rs=true) : zb9 rs:=by
  have:=zv6 (za7 rs) (zac rs) (zbg rs h)
  rwa [zjl rs h] at this
theorem zcm {cs ps : List Int} {bks : List Bk} (inv : ShInv ⟨cs,ps,bks.map Bk.pb⟩) : ChFacts cs ps bks:=by
  have hok : ∀ b ∈ bks,b.pb.ok=true:=fun b hb=>inv.oks b.pb (List.mem_map_of_mem hb)
  have hmp : ∀ b ∈ bks,mapOk b.rs=true:=fun b hb=>(zaw (hok b hb)).2.2.2.1
  refine ⟨by have:=inv.few;simpa using this,?_,inv.n1.2,fun b hb=>(zd1 _ (zaw (hok b hb)).1).2,fun b hb=>zw8 (hmp b hb),fun b hb=>?_,?_,fun b hb=>(zaw (hok b hb)).2.2.1,hmp⟩
  · have h1:=inv.cells.p
    exact h1.symm
  · have h:=hmp b hb
    rw [mapOk,Bool.and_eq_true,decide_eq_true_iff] at h;exact h.2
  · have h:=inv.srt
    simp only [List.map_map] at h;exact h
theorem zju {cs ps : List Int} {bks : List Bk} (inv : ShInv ⟨cs,ps,bks.map Bk.pb⟩) {o : Oq} (ho : opOk o=true) (hr : za5 (bks.map Bk.pb) o=0) (hk : o.k ≠ 1) : ∃ (i : Nat) (hi : i < bks.length),zag bks o.nm=i/\OpIn ⟨cs,ps,bks.map Bk.pb⟩ o i:=by
  have h0:=(zbk hr).1 hk;obtain ⟨i,hi,h1,h2⟩:=zhd (bks.map Bk.pb) o.nm (by omega);have hi' : i < bks.length:=by simpa using hi
  exact ⟨i,hi',by rw [zdb,h1],⟨inv,ho,hr,hi,h1⟩⟩
theorem zod (bks : List Bk) (i : Nat) (y : Bk) : (bks.set i y).map Bk.pb=(bks.map Bk.pb).set i y.pb:=List.map_set
theorem zjg {bks : List Bk} {n : ByteArray} (h : findP (bks.map Bk.pb) n < 0) : ∀ x ∈ bks,x.nm ≠ n:=fun x hx=>zoy (bks.map Bk.pb) n h x.pb (List.mem_map_of_mem hx)
theorem zy3 {cs ps : List Int} {bks : List Bk} {nm ot : ByteArray} {at_ va ep : Int} (ho : opOk ⟨1,nm,ot,at_,va,ep⟩=true) (hr : za5 (bks.map Bk.pb) ⟨1,nm,ot,at_,va,ep⟩=0) (m : Value) : doOp ⟨cs,ps,bks.map Bk.pb⟩ ⟨1,nm,ot,at_,va,ep⟩=(⟨cs,ps,(zda bks ⟨nm,va,m,[],false,0⟩).map Bk.pb⟩,(0,0)):=by
  rw [zxg ho hr rfl,zsj]
  rfl
theorem zpw {cs ps : List Int} {bks : List Bk} {nm ot : ByteArray} {at_ va ep : Int} {i : Nat} (hi : i < bks.length) (h : OpIn ⟨cs,ps,bks.map Bk.pb⟩ ⟨2,nm,ot,at_,va,ep⟩ i) :
    (∀ X,writtenS cs ps bks[i].rs at_ va=some X->∀ m : Value,doOp ⟨cs,ps,bks.map Bk.pb⟩ ⟨2,nm,ot,at_,va,ep⟩=(⟨X.1.1,X.1.2,(bks.set i ⟨bks[i].nm,bks[i].sz,m,X.2,bks[i].fx,bks[i].ep⟩).map Bk.pb⟩,(0,0))) /\
    (writtenS cs ps bks[i].rs at_ va=none->doOp ⟨cs,ps,bks.map Bk.pb⟩ ⟨2,nm,ot,at_,va,ep⟩=(⟨cs,ps,bks.map Bk.pb⟩,(9,0))):=by
  have e:=zth h rfl;simp only [List.getElem_map] at e;refine ⟨fun X hX m=>?_,fun hX=>?_⟩
  · rw [e,show bks[i].pb.rs=bks[i].rs from rfl,hX,zod]
    rfl
  · rw [e,show bks[i].pb.rs=bks[i].rs from rfl,hX]
theorem zy4 {cs ps : List Int} {bks : List Bk} {nm ot : ByteArray} {at_ va ep : Int} {i : Nat} (hi : i < bks.length) (h : OpIn ⟨cs,ps,bks.map Bk.pb⟩ ⟨3,nm,ot,at_,va,ep⟩ i) (m : Value) :
    doOp ⟨cs,ps,bks.map Bk.pb⟩ ⟨3,nm,ot,at_,va,ep⟩=(⟨(dropped cs ps (pageOf bks[i].rs at_)).1.1,(dropped cs ps (pageOf bks[i].rs at_)).1.2,(bks.set i ⟨bks[i].nm,bks[i].sz,m,(mapped bks[i].rs at_ (-1)).1,bks[i].fx,bks[i].ep⟩).map Bk.pb⟩,(0,0)):=by
  have e:=zxi h rfl;simp only [List.getElem_map] at e;rw [e,zod]
  rfl
theorem zsk {cs ps : List Int} {bks : List Bk} {k : Int} {nm ot : ByteArray} {at_ va ep : Int} {i : Nat} (hk : k=4\/k=5) (hi : i < bks.length) (h : OpIn ⟨cs,ps,bks.map Bk.pb⟩ ⟨k,nm,ot,at_,va,ep⟩ i) (m : Value) :
    doOp ⟨cs,ps,bks.map Bk.pb⟩ ⟨k,nm,ot,at_,va,ep⟩=(⟨(zax (cs,ps) (pagesOf bks[i].rs)).1,(zax (cs,ps) (pagesOf bks[i].rs)).2,(zda bks ⟨ot,bks[i].sz,m,bks[i].rs,k == 4,0⟩).map Bk.pb⟩,(0,0)):=by
  have e:=zxj h hk;simp only [List.getElem_map] at e;rw [e,zsj]
  rfl
theorem ztz {cs ps : List Int} {bks : List Bk} {nm ot : ByteArray} {at_ va ep : Int} {i : Nat} (hi : i < bks.length) (h : OpIn ⟨cs,ps,bks.map Bk.pb⟩ ⟨6,nm,ot,at_,va,ep⟩ i) :
    doOp ⟨cs,ps,bks.map Bk.pb⟩ ⟨6,nm,ot,at_,va,ep⟩=(⟨(zaj (cs,ps) (pagesOf bks[i].rs)).1,(zaj (cs,ps) (pagesOf bks[i].rs)).2,(bks.take i ++ bks.drop (i+1)).map Bk.pb⟩,(0,0)):=by
  have e:=ztf h rfl;simp only [List.getElem_map] at e;rw [e,List.map_append,List.map_take,List.map_drop]
  rfl
theorem zu0 {cs ps : List Int} {bks : List Bk} {nm ot : ByteArray} {at_ va ep : Int} {i : Nat} (hi : i < bks.length) (h : OpIn ⟨cs,ps,bks.map Bk.pb⟩ ⟨7,nm,ot,at_,va,ep⟩ i) (m : Value) :
    doOp ⟨cs,ps,bks.map Bk.pb⟩ ⟨7,nm,ot,at_,va,ep⟩=(⟨(zaj (cs,ps) ((pagesOf bks[i].rs).drop (pagesOf (belowM bks[i].rs va)).length)).1,(zaj (cs,ps) ((pagesOf bks[i].rs).drop (pagesOf (belowM bks[i].rs va)).length)).2,(bks.set i ⟨bks[i].nm,va,m,belowM bks[i].rs va,bks[i].fx,bks[i].ep⟩).map Bk.pb⟩,(0,0)):=by
  have e:=ztg h rfl;simp only [List.getElem_map] at e;rw [e,zod]
  rfl
theorem zu1 {cs ps : List Int} {bks : List Bk} {nm ot : ByteArray} {at_ va ep : Int} {i : Nat} (hi : i < bks.length) (h : OpIn ⟨cs,ps,bks.map Bk.pb⟩ ⟨8,nm,ot,at_,va,ep⟩ i) (m : Value) :
    doOp ⟨cs,ps,bks.map Bk.pb⟩ ⟨8,nm,ot,at_,va,ep⟩=(⟨cs,ps,(bks.set i ⟨bks[i].nm,bks[i].sz,m,bks[i].rs,bks[i].fx,bks[i].ep+1⟩).map Bk.pb⟩,(0,bks[i].ep+1)):=by
  have e:=zte h rfl;simp only [List.getElem_map] at e;rw [e,zod]
  rfl
theorem zy5 {cs ps : List Int} {bks : List Bk} {nm ot : ByteArray} {at_ va ep : Int} {i : Nat} (hi : i < bks.length) (h : OpIn ⟨cs,ps,bks.map Bk.pb⟩ ⟨9,nm,ot,at_,va,ep⟩ i) :
    doOp ⟨cs,ps,bks.map Bk.pb⟩ ⟨9,nm,ot,at_,va,ep⟩=(⟨cs,ps,bks.map Bk.pb⟩,(0,if pageOf bks[i].rs at_ < 0 then 0 else ps.getD (pageOf bks[i].rs at_).toNat 0)):=by
  have e:=zxh h rfl;simp only [List.getElem_map] at e;rw [e]
  rfl
theorem zy6 {cs ps : List Int} {bks : List Bk} (inv : ShInv ⟨cs,ps,bks.map Bk.pb⟩) (i : Nat) (hi : i < bks.length) (at_ : Int) : -1<=pageOf bks[i].rs at_/\pageOf bks[i].rs at_ < (ps.length : Int):=by
  have hm:=(zcm inv).map bks[i] (List.getElem_mem hi);have hl:=(zcm inv).len;have h1:=inv.n1.1;simp only at h1;unfold pageOf
  split
  · rename_i q
    have hr:=zbg _ hm at_.toNat (by omega);refine ⟨hr.1,?_⟩;by_cases h0 : 0<=(za7 bks[i].rs).getD at_.toNat 0
    · have hmem : (za7 bks[i].rs).getD at_.toNat 0 ∈ za7 bks[i].rs:=(zct _ (zac _) _).2 ⟨_,by omega,rfl⟩
      have:=(inv.page i (by simpa using hi) _ (by simp only [List.getElem_map];exact hmem) h0).1;simp only at this
      omega
    · omega
  · omega
def ChPost (ad : Nat->Addr) (base : Nat) (X : Sf × (Int × Int)) (e : Ending) (w' : World) : Prop :=
  (X.2.1=0/\∃ (u1 u2 ub : Value) (ms : List Bk),e = .returned (.tuple #[.agg #[u1,u2,ub],.int .i64 X.2.2,.nilIface])/\OwnS base w' u1 u2 ub X.1.cs X.1.ps ms/\ms.map Bk.pb=X.1.bs) \/
  (X.2.1=9/\e = .returned (.tuple #[.agg #[.slice none 0 0,.slice none 0 0,.slice none 0 0],.int .i64 0,refErr ad 9]))
end Go.Proofs.YtfkkapdofjhgpaaGreatDoor
