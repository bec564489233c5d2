import Derived.Deep.RegionHeld3
import Derived.Tactics
import Derived.Tactics2
import Derived.Defers
import Derived.Recover
import Derived.Laws.Pointers
import Derived.WalkLawsBesides
import Derived.Test.YtfkkapdofjhgpaaGreatDoorM01
import Derived.Test.YtfkkapdofjhgpaaGreatDoorM02
import Derived.Test.YtfkkapdofjhgpaaGreatDoorM05
set_option maxHeartbeats 12800000
namespace Go.Proofs.YtfkkapdofjhgpaaGreatDoor
open Go.RowKit
set_option linter.unusedVariables false
set_option maxRecDepth 100000
theorem zoz (nm : ByteArray) (sz : Int) (m m' : Value) (rs : List (Int × Int × Int)) (fx : Bool) (ep : Int) (w : World) (r : ReadsR 3 zak w.heap.size w m rs) (r' : ReadsR 3 zak w.heap.size w m' rs) :
    Calls Tryz.prog 152 #[.agg #[.string nm,.int .i64 sz,m,.bool fx,.int .i64 ep],.agg #[.string nm,.int .i64 sz,m',.bool fx,.int .i64 ep]] w fun e w'=>e = .returned (.bool true)/\Below w.heap.size w w':=by
  obtain ⟨o,cap,rfl⟩:=r.form;obtain ⟨o',cap',rfl⟩:=r'.form;obtain ⟨W0,hW0,k0,k1,d0,z0⟩:=zc7 w #[.string nm,.int .i64 sz,.slice o rs.length cap,.bool fx,.int .i64 ep] #[.string nm,.int .i64 sz,.slice o' rs.length cap',.bool fx,.int .i64 ep] 117 117;have r0:=(r.below d0).mono d0.size;have r1:=(r'.below d0).mono d0.size;have HW0 : Hid (W0 = _):=hW0;clear hW0 r r'
  go_enter Tryz.func152,Tryz.ntmps152
  go_wp2_with fail
  rw [<- HW0.out];clear HW0;refine (zqt _ _ rs rs _ r0 r1).mono ?_;rintro e w1 ⟨rfl,b⟩;replace k0:=(b.block _ (by omega)).trans k0;replace k1:=(b.block _ (by omega)).trans k1;replace d0:=za1 d0 b;have p3:=za0 k0 3;have p4:=za0 k0 4;have q3:=za0 k1 3;have q4:=za0 k1 4;simp only [decide_true];clear r0 r1 b k0 k1;cases fx
  · go_wp2_with fail
    go_ret;exact ⟨rfl,d0⟩
  · go_wp2_with fail
    go_ret;exact ⟨rfl,d0⟩
def zdk (b : Bk) : ByteArray × Int × List (Int × Int × Int) × Bool × Int:=(b.nm,b.sz,b.rs,b.fx,b.ep)
theorem zsx {bs ms : List Bk} (h : ms.map zdk=bs.map zdk) : ms.length=bs.length:=by simpa using congrArg List.length h
theorem zv7 {bs ms : List Bk} (h : ms.map zdk=bs.map zdk) (k : Nat) (h1 : k < ms.length) (h2 : k < bs.length) : zdk ms[k]=zdk bs[k]:=by
  have e : (ms.map zdk)[k]? = (bs.map zdk)[k]?:=by rw [h]
  simpa [h1,h2] using e
theorem zbj {B : Nat} {w : World} {o : Option Addr} {bs : List Bk} (hc : ∀ i x,bs[i]? = some x->∃ g off,o=some ⟨g,off,none⟩/\g < B/\∀ j u,(bookC x)[j]? = some u->w.cell? ⟨g,off+i * 5+j,none⟩=some u) (i : Nat) (hi : i < bs.length) :
    ∃ g off,o=some ⟨g,off,none⟩/\g < B/\w.cell? ⟨g,off+i * 5,none⟩=some (.string bs[i].nm)/\w.cell? ⟨g,off+i * 5+1,none⟩=some (.int .i64 bs[i].sz)/\w.cell? ⟨g,off+i * 5+2,none⟩=some bs[i].m/\w.cell? ⟨g,off+i * 5+3,none⟩=some (.bool bs[i].fx)/\w.cell? ⟨g,off+i * 5+4,none⟩=some (.int .i64 bs[i].ep):=by
  obtain ⟨g,off,e,hg,hx⟩:=hc i bs[i] (List.getElem?_eq_getElem hi);exact ⟨g,off,e,hg,hx 0 _ rfl,hx 1 _ rfl,hx 2 _ rfl,hx 3 _ rfl,hx 4 _ rfl⟩
theorem Tryz.infoBook : (Tryz.prog.info? 117).map (fun i=>(i.zero,i.size,i.bytes))=some (some (.agg #[.string ByteArray.empty,.int .i64 0,.slice none 0 0,.bool false,.int .i64 0]),5,64):=by kernel_rfl
def zkx : Bk:=⟨ByteArray.empty,0,.slice none 0 0,[],false,0⟩
theorem zgo {w : World} {base g n cap : Nat} {xs : List Bk} (h : w.ownsRow base 117 5 (.slice (some ⟨g,0,none⟩) n cap) xs.length (xs.flatMap bookC)) (i : Nat) (hi : i < xs.length) (y : Bk) :
    (((((w.setCell ⟨g,i * 5,none⟩ (.string y.nm)).setCell ⟨g,i * 5+1,none⟩ (.int .i64 y.sz)).setCell ⟨g,i * 5+2,none⟩ y.m).setCell ⟨g,i * 5+3,none⟩ (.bool y.fx)).setCell ⟨g,i * 5+4,none⟩ (.int .i64 y.ep)).ownsRow base 117 5 (.slice (some ⟨g,0,none⟩) n cap) (xs.set i y).length ((xs.set i y).flatMap bookC):=by
  obtain ⟨x,hx⟩ : ∃ x,xs[i]=x:=⟨_,rfl⟩
  have hxi : xs[i]? = some x:=by rw [List.getElem?_eq_getElem hi,hx]
  have h1:=zb2 zae h i 0 x ⟨y.nm,x.sz,x.m,x.rs,x.fx,x.ep⟩ (.string y.nm) hxi (by omega) rfl;have h2:=zb2 zae h1 i 1 ⟨y.nm,x.sz,x.m,x.rs,x.fx,x.ep⟩ ⟨y.nm,y.sz,x.m,x.rs,x.fx,x.ep⟩ (.int .i64 y.sz) (by simp [hi]) (by omega) rfl;have h3:=zb2 zae h2 i 2 ⟨y.nm,y.sz,x.m,x.rs,x.fx,x.ep⟩ ⟨y.nm,y.sz,y.m,x.rs,x.fx,x.ep⟩ y.m (by simp [hi]) (by omega) rfl;have h4:=zb2 zae h3 i 3 ⟨y.nm,y.sz,y.m,x.rs,x.fx,x.ep⟩ ⟨y.nm,y.sz,y.m,x.rs,y.fx,x.ep⟩ (.bool y.fx) (by simp [hi]) (by omega) rfl;have h5:=zb2 zae h4 i 4 ⟨y.nm,y.sz,y.m,x.rs,y.fx,x.ep⟩ y (.int .i64 y.ep) (by simp [hi]) (by omega) rfl;rw [List.set_set,List.set_set,List.set_set,List.set_set] at h5;exact h5
theorem zaz {w : World} {base g n cap : Nat} {xs : List Bk} (h : w.ownsRow base 117 5 (.slice (some ⟨g,0,none⟩) n cap) xs.length (xs.flatMap bookC)) (i : Nat) (hi : i < xs.length) :
    (w.cell? ⟨g,i * 5,none⟩=some (.string xs[i].nm)/\w.cell? ⟨g,i * 5+1,none⟩=some (.int .i64 xs[i].sz)/\w.cell? ⟨g,i * 5+2,none⟩=some xs[i].m/\w.cell? ⟨g,i * 5+3,none⟩=some (.bool xs[i].fx)/\w.cell? ⟨g,i * 5+4,none⟩=some (.int .i64 xs[i].ep))/\w.frozen? ⟨g,i * 5,none⟩=false/\w.frozen? ⟨g,i * 5+1,none⟩=false/\w.frozen? ⟨g,i * 5+2,none⟩=false/\w.frozen? ⟨g,i * 5+3,none⟩=false/\w.frozen? ⟨g,i * 5+4,none⟩=false:=by
  obtain ⟨a0,b0⟩:=zbn zae h i 0 _ (List.getElem?_eq_getElem hi) (by omega);obtain ⟨a1,b1⟩:=zbn zae h i 1 _ (List.getElem?_eq_getElem hi) (by omega);obtain ⟨a2,b2⟩:=zbn zae h i 2 _ (List.getElem?_eq_getElem hi) (by omega);obtain ⟨a3,b3⟩:=zbn zae h i 3 _ (List.getElem?_eq_getElem hi) (by omega);obtain ⟨a4,b4⟩:=zbn zae h i 4 _ (List.getElem?_eq_getElem hi) (by omega);exact ⟨⟨a0,a1,a2,a3,a4⟩,b0,b1,b2,b3,b4⟩
structure OwnB (base : Nat) (w : World) (v : Value) (bs : List Bk) : Prop where
  row : w.ownsRow base 117 5 v bs.length (bs.flatMap bookC)
  maps : ∀ b ∈ bs,w.ownsRow base 172 3 b.m b.rs.length (b.rs.flatMap zak)
theorem OwnB.reads {base : Nat} {w : World} {v : Value} {bs : List Bk} (h : OwnB base w v bs) : ReadsB w.heap.size w v bs:=⟨ReadsR.of_own zae h.row,fun b hb=>ReadsR.of_own zat (h.maps b hb)⟩
theorem OwnB.below {base : Nat} {w w' : World} {v : Value} {bs : List Bk} (h : OwnB base w v bs) (k : Below w.heap.size w w') : OwnB base w' v bs:=⟨za9 h.row k,fun b hb=>za9 (h.maps b hb) k⟩
theorem OwnB.mono {base base' : Nat} {w : World} {v : Value} {bs : List Bk} (h : OwnB base w v bs) (k : base'<=base) : OwnB base' w v bs:=⟨zah h.row k,fun b hb=>zah (h.maps b hb) k⟩
def ApartM (ms : List Bk) : Prop:=ms.Pairwise (fun a b=>∀ g,a.m.ownBlock=some g->b.m.ownBlock ≠ some g)
theorem ApartM.snoc {ms : List Bk} (h : ApartM ms) (y : Bk) (hy : ∀ b ∈ ms,∀ g,b.m.ownBlock=some g->y.m.ownBlock ≠ some g) : ApartM (ms ++ [y]) :=
  List.pairwise_append.2 ⟨h,List.pairwise_singleton _ _,fun a ha b hb=>by simp only [List.mem_singleton] at hb;subst hb;exact hy a ha⟩
def zek : List Nat:=[2,3,4,5,6,7,8,9,11]
structure Vars (w : World) (ad : Nat->Addr) : Prop where
  cell : ∀ i ∈ zek,w.cell? ⟨i,0,none⟩=some (.iface 334 (.pointer (some (ad i))))
  et : w.cell? ⟨10,0,none⟩=some (.iface 246 (.agg #[.pointer (some ⟨13,185,none⟩)]))
  blk : ∀ i ∈ zek,∃ c t,w.heap[(ad i).block]? = some (.cells c t (0,0))
theorem zf8 {w : World} {a : Addr} {v : Value} (h : w.cell? a=some v) : a.block < w.heap.size:=by
  rcases Nat.lt_or_ge a.block w.heap.size with q | q
  · exact q
  · simp [World.cell?,Array.getElem?_eq_none q] at h
theorem Vars.below {w w' : World} {ad : Nat->Addr} (h : Vars w ad) (k : Below w.heap.size w w') : Vars w' ad :=
  ⟨fun i hi=>(k.cell (p:=⟨i,0,none⟩) (zf8 (h.cell i hi))).trans (h.cell i hi),(k.cell (p:=⟨10,0,none⟩) (zf8 h.et)).trans h.et,fun i hi=>by
    obtain ⟨c,t,hb⟩:=h.blk i hi
    exact ⟨c,t,kb0 k hb⟩⟩
structure VarsS (w : World) (ad : Nat->Addr) : Prop where
  v : Vars w ad
  ws : w.cell? ⟨1,0,none⟩=some (.iface 334 (.pointer (some (ad 1))))
  ne : ∀ i ∈ zek,ad i ≠ ad 1
  wb : ∃ c t,w.heap[(ad 1).block]? = some (.cells c t (0,0))
theorem VarsS.below {w w' : World} {ad : Nat->Addr} (h : VarsS w ad) (k : Below w.heap.size w w') : VarsS w' ad :=
  ⟨h.v.below k,(k.cell (p:=⟨1,0,none⟩) (zf8 h.ws)).trans h.ws,h.ne,by
    obtain ⟨c,t,hb⟩:=h.wb
    exact ⟨c,t,kb0 k hb⟩⟩
def zhk (c : Int) : Nat:=if c=1 then 2 else if c=2 then 3 else if c=3 then 4 else if c=4 then 5 else if c=5 then 6 else if c=6 then 7 else if c=7 then 8 else if c=8 then 9 else if c=9 then 11 else 0
def refErr (ad : Nat->Addr) (c : Int) : Value:=if c=0 then .nilIface else .iface 218 (.agg #[.int .i64 c,.iface 334 (.pointer (some (ad (zhk c))))])
def zym (k : Int) : Bool:=decide (k=1) || kOther k
def zx3 (k : Int) : Bool:=decide (k=2) || decide (k=3) || decide (k=7)
theorem zd9 (k : Int) (hk : 1<=k/\k<=9) (w : World) :
    Calls Tryz.prog 229 #[.int .i64 k] w fun e w'=>e = .returned (.bool (zym k))/\w'=w:=by
  have h : k=1\/k=2\/k=3\/k=4\/k=5\/k=6\/k=7\/k=8\/k=9:=by omega
  rcases h with rfl | rfl | rfl | rfl | rfl | rfl | rfl | rfl | rfl
  all_goals
    go_enter Tryz.func229,Tryz.ntmps229
    go_wp2
    go_ret;exact ⟨rfl,rfl⟩
theorem zbq (k : Int) (hk : 1<=k/\k<=9) (w : World) :
    Calls Tryz.prog 231 #[.int .i64 k] w fun e w'=>e = .returned (.bool (kEpoch k))/\w'=w:=by
  have h : k=1\/k=2\/k=3\/k=4\/k=5\/k=6\/k=7\/k=8\/k=9:=by omega
  rcases h with rfl | rfl | rfl | rfl | rfl | rfl | rfl | rfl | rfl
  all_goals
    go_enter Tryz.func231,Tryz.ntmps231
    go_wp2
    go_ret;exact ⟨rfl,rfl⟩
theorem zbf (k : Int) (hk : 1<=k/\k<=9) (w : World) :
    Calls Tryz.prog 232 #[.int .i64 k] w fun e w'=>e = .returned (.bool (zx3 k))/\w'=w:=by
  have h : k=1\/k=2\/k=3\/k=4\/k=5\/k=6\/k=7\/k=8\/k=9:=by omega
  rcases h with rfl | rfl | rfl | rfl | rfl | rfl | rfl | rfl | rfl
  all_goals
    go_enter Tryz.func232,Tryz.ntmps232
    go_wp2
    go_ret;exact ⟨rfl,rfl⟩
theorem zbx (k : Int) (hk : 1<=k/\k<=9) (w : World) :
    Calls Tryz.prog 233 #[.int .i64 k] w fun e w'=>e = .returned (.bool (kAt k))/\w'=w:=by
  have h : k=1\/k=2\/k=3\/k=4\/k=5\/k=6\/k=7\/k=8\/k=9:=by omega
  rcases h with rfl | rfl | rfl | rfl | rfl | rfl | rfl | rfl | rfl
  all_goals
    go_enter Tryz.func233,Tryz.ntmps233
    go_wp2
    go_ret;exact ⟨rfl,rfl⟩
theorem zmb (nm ot : ByteArray) (at_ va ep : Int) (w : World) :
    Calls Tryz.prog 230 #[.agg #[.int .i64 1,.string nm,.string ot,.int .i64 at_,.int .i64 va,.int .i64 ep]] w fun e w'=>e = .returned (.string nm)/\Below w.heap.size w w':=by
  go_enter Tryz.func230,Tryz.ntmps230
  go_wp2
  go_ret;exact ⟨rfl,za3 (Below.refl _ _)⟩
theorem zgp (k : Int) (hk : k=4\/k=5) (nm ot : ByteArray) (at_ va ep : Int) (w : World) :
    Calls Tryz.prog 230 #[.agg #[.int .i64 k,.string nm,.string ot,.int .i64 at_,.int .i64 va,.int .i64 ep]] w fun e w'=>e = .returned (.string ot)/\Below w.heap.size w w':=by
  rcases hk with rfl | rfl
  all_goals
    go_enter Tryz.func230,Tryz.ntmps230
    go_wp2
    go_ret;exact ⟨rfl,za3 (Below.refl _ _)⟩
def bkAt (bks : List Bk) (at_ : Int) : Bk:=if at_ < 0 then zkx else bks.getD at_.toNat zkx
theorem zx4 {bks : List Bk} {at_ : Int} (h : at_ < 0) : bkAt bks at_=zkx:=by rw [bkAt,if_pos h]
theorem zv8 {bks : List Bk} {i : Nat} (h : i < bks.length) : bkAt bks (i : Int)=bks[i]:=by
  rw [bkAt,if_neg (by omega),Int.toNat_natCast,List.getD_eq_getElem?_getD,List.getElem?_eq_getElem h];rfl
theorem zch (vb : Value) (bks : List Bk) (at_ : Int) (w : World) (hat : at_ < bks.length) (hms : ∀ b ∈ bks,∃ o k cap,b.m = .slice o k cap) (r : ReadsR 5 bookC w.heap.size w vb bks) :
    Calls Tryz.prog 228 #[vb,.int .i64 at_] w fun e w'=>e = .returned (.agg (bookC (bkAt bks at_)).toArray)/\Below w.heap.size w w':=by
  obtain ⟨o,cap,rfl,hm,hc,-⟩:=r;have HC : Hid _:=zbj hc;obtain ⟨W0,hW0,k0,d0,z0⟩:=zb4 w #[.string ByteArray.empty,.int .i64 0,.slice none 0 0,.bool false,.int .i64 0] 117;unfold maxLen at hm;have HW0 : Hid (W0 = _):=hW0;obtain ⟨p0,p1,p2,p3,p4⟩:=cq5 k0;obtain ⟨f0,f1,f2,f3,f4⟩:=oq5 k0;clear hc;by_cases h0 : at_ < 0
  · rw [zx4 h0]
    go_enter Tryz.func228,Tryz.ntmps228
    go_wp2_with fail
    refine bodyPost_ret (v:=.agg (bookC zkx).toArray) ?_ rfl ⟨rfl,za3 (Below.refl _ _)⟩;simp [results,Tryz.results228,go_sem,bookC,zkx]
    rfl
  · obtain ⟨i,rfl⟩:=Int.eq_ofNat_of_zero_le (show 0<=at_ by omega)
    have hi : i < bks.length:=by omega
    rw [zv8 hi];obtain ⟨g,off,rfl,hg,a0,a1,a2,a3,a4⟩:=HC.out i hi;obtain ⟨o',k',c',hm'⟩:=hms bks[i] (List.getElem_mem hi);generalize bks[i]=x at *;obtain ⟨xn,xs,xm,xr,xf,xe⟩:=x;simp only at a0 a1 a2 a3 a4 hm';subst hm';have hne : ¬ g=w.heap.size:=by omega
    go_enter Tryz.func228,Tryz.ntmps228
    go_wp2_with fail
    refine bodyPost_ret (v:=.agg (bookC ⟨xn,xs,.slice o' k' c',xr,xf,xe⟩).toArray) ?_ rfl ⟨rfl,za3 (Below.refl _ _)⟩;simp [results,Tryz.results228,go_sem,bookC]
theorem zky (c : Int) (i : Nat) (w : World) (ad : Nat->Addr) (hv : Vars w ad) :
    Calls Tryz.prog 187 #[.iface 218 (.agg #[.int .i64 c,.iface 334 (.pointer (some (ad i)))])] w fun e w'=>e = .returned (.int .i64 c)/\Below w.heap.size w w':=by
  obtain ⟨W0,hW0,k0,d0,z0⟩:=zb4 w #[.int .i64 0,.nilIface] 218;have HW0 : Hid (W0 = _):=hW0;have hv0:=hv.below d0;clear hW0 z0
  go_enter Tryz.func187,Tryz.ntmps187
  go_wp2_with fail
  rw [<- HW0.out];clear HW0;refine (zyj c _ (ad i) w.heap.size _ _ _ hv0.et k0).mono ?_;rintro e w1 ⟨rfl,k1,u1⟩;have q0:=za0 k1 0;have b1 : Below w.heap.size w w1:=d0.trans (u1.toBelow d0.size (Nat.le_refl _));clear k1 u1 k0 d0
  go_wp2_with fail
  go_ret;exact ⟨rfl,b1⟩
def VarB (w : World) (ad : Addr) : Prop:=w.cell? ⟨0,0,none⟩=some (.iface 334 (.pointer (some ad)))
theorem zid (w : World) : Calls Tryz.prog 119 #[.bool true] w fun e w'=>e = .returned (.tuple #[])/\w'=w:=by
  go_enter Tryz.func119,Tryz.ntmps119
  go_wp2
  exact bodyPost_end (results_none rfl _ _ _) rfl ⟨rfl,rfl⟩
theorem zsd (ad : Addr) (w : World) (h : VarB w ad) : Calls Tryz.prog 119 #[.bool false] w fun e w'=>e = .panicked [{ v:=.iface 334 (.pointer (some ad)),recovered:=false }]/\w'=w:=by
  have h':=h;unfold VarB at h'
  go_enter Tryz.func119,Tryz.ntmps119
  go_wp2
  exact ⟨rfl,rfl,rfl⟩
def hz9 : Array Value:=#[.bool false,.int .i64 0,.slice none 0 0,.int .i64 0,.slice none 0 0,.slice none 0 0,.slice none 0 0,.slice none 0 0,.slice none 0 0]
def zn9 (b c : Nat) (w : World) : World:=((((((((((w.setCell ⟨b,0,none⟩ (.bool false)).setCell ⟨b,1,none⟩ (.int .i64 0)).setCell ⟨b,2,none⟩ (.slice none 0 0)).setCell ⟨b,3,none⟩ (.int .i64 0)).setCell ⟨b,4,none⟩ (.slice none 0 0)).setCell ⟨b,5,none⟩ (.slice none 0 0)).setCell ⟨b,6,none⟩ (.slice none 0 0)).setCell ⟨b,7,none⟩ (.slice none 0 0)).setCell ⟨b,8,none⟩ (.slice none 0 0)).setCell ⟨c,0,none⟩ (.bool false))
theorem zkz (b c : Nat) (x0 x1 x2 x3 x4 x5 x6 x7 x8 y : Value) (u : TypeId) (pv : Value) (older : List PanicEntry) (w : World) (kb : w.heap[b]? = some (.cells #[x0,x1,x2,x3,x4,x5,x6,x7,x8] 35 (0,0))) (kc : w.heap[c]? = some (.cells #[y] 4 (0,0))) (hbc : ¬ b=c) :
    CallsD Tryz.prog 118 #[.pointer (some ⟨b,0,none⟩),.pointer (some ⟨c,0,none⟩)] (.panicking ({ v:=.iface u pv,recovered:=false } :: older)) w fun e u' w' =>
      e = .returned (.tuple #[])/\u' = .panicking ({ v:=.iface u pv,recovered:=true } :: older)/\w'=zn9 b c w:=by
  have hcb : ¬ c=b:=fun e=>hbc e.symm
  obtain ⟨q0,q1,q2,q3,q4,q5,q6,q7,q8⟩:=cq9 kb;obtain ⟨f0,f1,f2,f3,f4,f5,f6,f7,f8⟩:=oq9 kb;have qc:=za0 kc 0;have fc:=za8 kc 0;refine callsD_of_wpS Tryz.func118 rfl fun c₀ cs hu=>?_
  apply wpS_seq
  apply wpS_region
  simp [wpOpsS,go_sem,recoverD,hu,Tryz.ntmps118,Exit.thenS];refine wpS_cond (t:=true) (by simp [Act.eval,Array.replicate]) ?_;simp only [if_true]
  apply wpS_region
  simp [wpOpsS,go_sem,q0,q1,q2,q3,q4,q5,q6,q7,q8,f0,f1,f2,f3,f4,f5,f6,f7,f8,qc,fc,bodyPostS,results,Tryz.results118,zn9]
theorem zsy (p q : Addr) (w : World) :
    CallsD Tryz.prog 118 #[.pointer (some p),.pointer (some q)] .returning w fun e u' w'=>e = .returned (.tuple #[])/\u' = .returning/\w'=w:=by
  refine callsD_of_wpS Tryz.func118 rfl fun c₀ cs hu=>?_
  apply wpS_seq
  apply wpS_region
  simp [wpOpsS,go_sem,recoverD,hu,Tryz.ntmps118,Exit.thenS];refine wpS_cond (t:=false) (by simp [Act.eval,Array.replicate]) ?_;simp only [Bool.false_eq_true,if_false];refine wpS_of_wp (wp_skip ?_);cases c₀
  simp_all [bodyPostS,results,Tryz.results118]
end Go.Proofs.YtfkkapdofjhgpaaGreatDoor
