import Derived.Laws.StructEq
import Derived.BigQuiet
import Derived.Test.YtfkkapdofjhgpaaGreatDoorM02
import Derived.Test.YtfkkapdofjhgpaaGreatDoorM18
import Derived.Test.YtfkkapdofjhgpaaGreatDoorM20
import Derived.Test.YtfkkapdofjhgpaaGreatDoorM22
import Derived.Test.YtfkkapdofjhgpaaGreatDoorM25
import Derived.Test.YtfkkapdofjhgpaaGreatDoorM26
set_option maxHeartbeats 12800000
namespace Go.Proofs.YtfkkapdofjhgpaaGreatDoor
open Go.RowKit
set_option linter.unusedVariables false
set_option maxRecDepth 100000
def zsn (md : Region.Mode) (ops : Array Oper) : Nat->List Nat->Bool
  | _,[]=>true
  | p,i :: l=>zw2 md ops p i && zsn md ops i l
theorem Down.path {md : Region.Mode} {ops : Array Oper} {L : Array Bool} (h : Down md ops L) : ∀ (l : List Nat) (p : Nat),zsn md ops p l=true->L.getD p false=true->L.getD (l.getLastD p) false=true
  | [],p,_,hp=>hp
  | i :: l,p,hl,hp=>by
    simp only [zsn,Bool.and_eq_true] at hl;have:=Down.path h l i hl.2 (h p i hp hl.1);rw [List.getLastD_cons];exact this
theorem Down.no {md : Region.Mode} {ops : Array Oper} {L : Array Bool} (h : Down md ops L) (p : Nat) (l : List Nat) {i : Nat} (hn : L.getD i true=false) (hp : zsn md ops p l=true) (hi : l.getLastD p=i) : L.getD p false=false:=by
  rw [Bool.eq_false_iff];intro h1;have h2:=h.path l p hp h1;rw [hi] at h2;have h3:=zft hn;rw [h2] at h3;cases h3
structure RX (ops : Array Oper) (p sB sV : Nat) (R : Nat->Value->World->Prop) (a0 : Act) (W : World) (L : Array Bool) (a : Act) (x X : World) : Prop where
  df : a.defers=a0.defers
  sz : a.tmps.size=a0.tmps.size
  old : ∀ s,ops.toList.all (fun o=>o.dst != some s)=true->a.tmps.getD s undef=a0.tmps.getD s undef
  rel : ∀ j s,L.getD j false=true->((ops[j]?).bind (·.dst))=some s->R j (a.tmps.getD s undef) X
  bel : Below W.heap.size W X
  pre : L.getD p false=false->x=X
  fin : L.getD p false=true->∃ n zs,a.tmps.getD sB undef = .pointer (some ⟨n,0,none⟩)/\a.tmps.getD sV undef = .agg zs/\x=X.setRow n zs
def RXs (ops : Array Oper) (p sB sV : Nat) (R : Nat->Value->World->Prop) (a0 : Act) (W : World) (L : Array Bool) (a : Act) (x : World) : Prop:=∃ X,RX ops p sB sV R a0 W L a x X
theorem RXs.start (ops : Array Oper) (p sB sV : Nat) (R : Nat->Value->World->Prop) (a0 : Act) (W : World) : RXs ops p sB sV R a0 W (Array.replicate ops.size false) a0 W.drew:=by
  have hn : ∀ j,(Array.replicate ops.size false).getD j false=false:=fun j=>by
    rw [Array.getD_eq_getD_getElem?,Array.getElem?_replicate]
    split <;> rfl
  exact ⟨W.drew,rfl,rfl,fun _ _=>rfl,(fun j s h=>by rw [hn] at h;cases h),zar (Below.refl _ _),fun _=>rfl,(fun h=>by rw [hn] at h;cases h)⟩
theorem RX.val {ops : Array Oper} {p sB sV : Nat} {R : Nat->Value->World->Prop} {a0 : Act} {W : World} {L : Array Bool} {a : Act} {x X : World} (h : RX ops p sB sV R a0 W L a x X) (i s : Nat) (v : Value) (x' : World) (hp : i ≠ p) (hi : ((ops[i]?).bind (·.dst))=some s) (hs : s < a0.tmps.size) (hd : (ops.toList.all (fun o=>o.dst != some s))=false) (hu : znk ops s i=true)
    (hn : L.getD p false=false) (hb : Below x.heap.size x x') (hv : R i v x') (hm : ∀ j u,R j u x->R j u x') : RXs ops p sB sV R a0 W (L.setIfInBounds i true) (a.put (some s) v) x':=by
  obtain rfl:=h.pre hn;refine ⟨x',h.df,by show (a.tmps.setIfInBounds s v).size = _;rw [Array.size_setIfInBounds];exact h.sz,fun r hr=>?_,fun j r hj hr=>?_,za1 h.bel hb,fun _=>rfl,fun hl=>by rw [zbv hp,hn] at hl;cases hl⟩
  · have hne : s ≠ r:=fun e=>by subst e;rw [hd] at hr;cases hr
    exact (zca v hne).trans (h.old r hr)
  · show R j ((a.tmps.setIfInBounds s v).getD r undef) x'
    by_cases e : i=j
    · subst e
      rw [hi] at hr;cases hr;rw [zfu v (by rw [h.sz];exact hs)];exact hv
    · have hne : s ≠ r:=fun e2=>by subst e2;exact e (zkn hu j hr).symm
      rw [zca v hne];rw [zbv e] at hj;exact hm _ _ (h.rel j r hj hr)
theorem RX.put {ops : Array Oper} {p sB sV : Nat} {R : Nat->Value->World->Prop} {a0 : Act} {W : World} {L : Array Bool} {a : Act} {x X : World} (h : RX ops p sB sV R a0 W L a x X) (i s : Nat) (v : Value) (hp : i ≠ p) (hi : ((ops[i]?).bind (·.dst))=some s) (hs : s < a0.tmps.size) (hd : (ops.toList.all (fun o=>o.dst != some s))=false) (hu : znk ops s i=true)
    (hB : s ≠ sB) (hV : s ≠ sV) (hv : R i v X) : RXs ops p sB sV R a0 W (L.setIfInBounds i true) (a.put (some s) v) x:=by
  refine ⟨X,h.df,by show (a.tmps.setIfInBounds s v).size = _;rw [Array.size_setIfInBounds];exact h.sz,fun r hr=>?_,fun j r hj hr=>?_,h.bel,fun hl=>h.pre (by rwa [zbv hp] at hl),fun hl=>?_⟩
  · have hne : s ≠ r:=fun e=>by subst e;rw [hd] at hr;cases hr
    exact (zca v hne).trans (h.old r hr)
  · show R j ((a.tmps.setIfInBounds s v).getD r undef) X
    by_cases e : i=j
    · subst e
      rw [hi] at hr;cases hr;rw [zfu v (by rw [h.sz];exact hs)];exact hv
    · have hne : s ≠ r:=fun e2=>by subst e2;exact e (zkn hu j hr).symm
      rw [zca v hne];rw [zbv e] at hj;exact h.rel j r hj hr
  · rw [zbv hp] at hl
    obtain ⟨n,zs,e1,e2,e3⟩:=h.fin hl;exact ⟨n,zs,(zca v hB).trans e1,(zca v hV).trans e2,e3⟩
theorem RX.store {ops : Array Oper} {p sB sV : Nat} {R : Nat->Value->World->Prop} {a0 : Act} {W : World} {L : Array Bool} {a : Act} {x X : World} (h : RX ops p sB sV R a0 W L a x X) (hp : p < L.size) (hn : L.getD p false=false) (hd : ((ops[p]?).bind (·.dst))=none) {n : Nat} {zs : Array Value} (hB : a.tmps.getD sB undef = .pointer (some ⟨n,0,none⟩)) (hV : a.tmps.getD sV undef = .agg zs) : RXs ops p sB sV R a0 W (L.setIfInBounds p true) a (x.setRow n zs):=by
  obtain rfl:=h.pre hn;refine ⟨x,h.df,h.sz,h.old,fun j r hj hr=>?_,h.bel,fun hl=>?_,fun _=>⟨n,zs,hB,hV,rfl⟩⟩
  · by_cases e : p=j
    · subst e;rw [hd] at hr;cases hr
    · rw [zbv e] at hj
      exact h.rel j r hj hr
  · rw [znj hp] at hl;cases hl
theorem RX.frame {ops : Array Oper} {p sB sV : Nat} {R : Nat->Value->World->Prop} {a0 : Act} {W : World} {L : Array Bool} {a : Act} {x X : World} (h : RX ops p sB sV R a0 W L a x X) (S : List Nat) (hS : zln ops S a0.tmps.size=true) : a=Act.puts a0 (fun s=>a.tmps.getD s undef) S:=by
  have hd : a.defers=(Act.puts a0 (fun s=>a.tmps.getD s undef) S).defers:=by rw [zff];exact h.df
  have ht : a.tmps=(Act.puts a0 (fun s=>a.tmps.getD s undef) S).tmps:=by
    refine zo5 (by rw [zhg];exact h.sz) (fun r hr=>?_);rw [zko _ S a0 r (by rw [<- h.sz];exact hr)];by_cases hm : r ∈ S
    · rw [if_pos hm]
    · rw [if_neg hm]
      exact h.old r (zlo hS r (by rw [<- h.sz];exact hr) hm)
  generalize Act.puts a0 (fun s=>a.tmps.getD s undef) S=b at hd ht;cases a;cases b;simp only at hd ht;rw [hd,ht]
theorem zwp {w : World} {g : Nat} {cs : Array Value} : Upto g w (w.setRow g cs):=by
  refine ⟨rfl,rfl,rfl,by simp [World.setRow],fun k hk hne=>?_⟩;simp only [World.setRow,Array.getElem?_modify];rw [if_neg (fun e=>hne e.symm)]
theorem zkh (sq cl tg k : Int) (nm ot : ByteArray) (at_ va ep : Int) (w : World) (hf : zlr ⟨sq,cl,tg,⟨k,nm,ot,at_,va,ep⟩⟩) :
    Calls Tryz.prog 184 #[.agg #[.int .i64 sq,.int .i64 cl,.int .i64 tg,.int .i64 k,.string nm,.string ot,.int .i64 at_,.int .i64 va,.int .i64 ep]] w fun e w'=>e = .returned (.bool (zfc ⟨sq,cl,tg,⟨k,nm,ot,at_,va,ep⟩⟩))/\Below w.heap.size w w':=by
  obtain ⟨⟨hn,ho⟩,-,-,-,fk,fa,fv,fe⟩:=hf;simp only at hn ho fk fa fv fe;obtain ⟨W0,hW0,k0,d0,z0⟩:=zb4 w #[.int .i64 sq,.int .i64 cl,.int .i64 tg,.int .i64 k,.string nm,.string ot,.int .i64 at_,.int .i64 va,.int .i64 ep] 39;have HW0 : Hid (W0 = _):=hW0;obtain ⟨p0,p1,p2,p3,p4,p5,p6,p7,p8⟩:=cq9 k0;have HB : Hid (zfc ⟨sq,cl,tg,⟨k,nm,ot,at_,va,ep⟩⟩=(inB sq 1 1000 && inB tg 1 1000 && inB cl 0 3 && zdt ⟨k,nm,ot,at_,va,ep⟩)):=rfl;clear hW0 z0 k0
  go_enter Tryz.func184,Tryz.ntmps184
  go_wp2_with fail
  rw [<- HW0.out];clear HW0;refine (ze8 sq 1 1000 _).mono ?_;rintro e w' ⟨rfl,rfl⟩;generalize inB sq 1 1000=c0 at *;cases c0
  · go_wp2_with fail
    go_ret;exact ⟨za6 (by rw [HB.out];rfl),d0⟩
  go_wp2_with fail
  refine (zij cl _).mono ?_;rintro e w' ⟨rfl,rfl⟩;generalize inB cl 0 3=c1 at *;cases c1
  · go_wp2_with fail
    go_ret;exact ⟨za6 (by rw [HB.out,Bool.and_false,Bool.false_and]),d0⟩
  go_wp2_with fail
  refine (zjb tg _).mono ?_;rintro e w' ⟨rfl,rfl⟩;generalize inB tg 1 1000=c2 at *;cases c2
  · go_wp2_with fail
    go_ret;exact ⟨za6 (by rw [HB.out];rfl),d0⟩
  go_wp2_with fail
  refine (zk8 k nm ot at_ va ep _ hn ho fk fa fv fe).mono ?_;rintro e w1 ⟨rfl,b1⟩;replace d0:=za1 d0 b1;generalize zdt ⟨k,nm,ot,at_,va,ep⟩=c3 at *
  go_wp2_with fail
  go_ret;exact ⟨za6 (by rw [HB.out];rfl),d0⟩
theorem zqk (v : Value) (l : List Ent) (w : World) (hf : ze0 l) (hl : l.length<=120) (r : ReadsR 9 zbs w.heap.size w v l) :
    Calls Tryz.prog 170 #[v] w fun e w'=>e = .returned (.int .i64 (inOrd 0 tags0 l : Nat))/\Below w.heap.size w w':=by
  obtain ⟨o,cap,rfl,hm,hc,-⟩:=r;have HC : Hid _:=zd6 hc;have HF : Hid _:=hf;clear hc hf hm
  have own0 : (w.alloc (.cells #[.int .i64 0,.int .i64 0,.int .i64 0,.int .i64 0] 191)).ownsRow w.heap.size 191 1 (.slice (some ⟨w.heap.size,0,none⟩) 4 4) 4 (tags0.map (Value.int .i64)) :=
    World.ownsRow_lit (e:=191) (size:=1) (base:=w.heap.size) w #[.int .i64 0,.int .i64 0,.int .i64 0,.int .i64 0] 4 (by simp) (by unfold maxLen;omega) rfl
  have bd0 : Below w.heap.size w (w.alloc (.cells #[.int .i64 0,.int .i64 0,.int .i64 0,.int .i64 0] 191)):=za3 (Below.refl _ _)
  go_enter Tryz.func170,Tryz.ntmps170
  go_wp2_with fail
  go_step3
  go_wp2_with fail
  go_step3
  go_wp2_with fail
  generalize w.alloc (.cells #[.int .i64 0,.int .i64 0,.int .i64 0,.int .i64 0] 191)=W0 at own0 bd0 ⊢
  go_loopw [4,10] (fun cnt i wr=>∃ (k : Nat) (t : List Int),k<=l.length/\cnt = .int .i64 k/\i = .int .i64 k/\t.length=4/\inOrd 0 tags0 l=inOrd k t (l.drop k)/\wr.ownsRow w.heap.size 191 1 (.slice (some ⟨w.heap.size,0,none⟩) 4 4) 4 (t.map (Value.int .i64))/\Below w.heap.size w wr) (fun _ i _=>l.length - (intOf i).toNat)
  case atStart=>exact ⟨0,tags0,Nat.zero_le _,rfl,rfl,rfl,rfl,own0,bd0⟩
  case round =>
    clear own0 bd0;obtain ⟨k,t,hk,rfl,rfl,htl,hin,own,hb⟩:=hrel;by_cases hlt : k < l.length
    · obtain ⟨g,off,rfl,hg,a0,a1,a2,a3,a4,a5,a6,a7,a8⟩:=HC.out k hlt
      have hfe:=HF.out l[k] (List.getElem_mem hlt);have HY : Hid (zc5 k t l[k]=true->inOrd 0 tags0 l=inOrd (k+1) (t.set l[k].cl.toNat l[k].tg) (l.drop (k+1))):=fun h=>hin.trans (zj8 hlt h)
      have HN : Hid (zc5 k t l[k]=false->((inOrd 0 tags0 l : Nat) : Int)=k):=fun h=>by rw [hin.trans (zih hlt h)]
      generalize l[k]=x at a0 a1 a2 a3 a4 a5 a6 a7 a8 hfe HY HN;obtain ⟨sq,cl,tg,⟨k1,nm,ot,at_,va,ep⟩⟩:=x;simp only at a0 a1 a2 a3 a4 a5 a6 a7 a8;replace a0:=(hb.cell (p:=⟨g,off+k * 9,none⟩) hg).trans a0;replace a1:=(hb.cell (p:=⟨g,off+k * 9+1,none⟩) hg).trans a1;replace a2:=(hb.cell (p:=⟨g,off+k * 9+2,none⟩) hg).trans a2;replace a3:=(hb.cell (p:=⟨g,off+k * 9+3,none⟩) hg).trans a3;replace a4:=(hb.cell (p:=⟨g,off+k * 9+4,none⟩) hg).trans a4;replace a5:=(hb.cell (p:=⟨g,off+k * 9+5,none⟩) hg).trans a5;replace a6:=(hb.cell (p:=⟨g,off+k * 9+6,none⟩) hg).trans a6;replace a7:=(hb.cell (p:=⟨g,off+k * 9+7,none⟩) hg).trans a7;replace a8:=(hb.cell (p:=⟨g,off+k * 9+8,none⟩) hg).trans a8;obtain ⟨W5,hW5,k5,d5,z5⟩:=zb4 wr #[.int .i64 sq,.int .i64 cl,.int .i64 tg,.int .i64 k1,.string nm,.string ot,.int .i64 at_,.int .i64 va,.int .i64 ep] 39;have HW5 : Hid (W5 = _):=hW5;have HO : Hid (W5.ownsRow w.heap.size 191 1 (.slice (some ⟨w.heap.size,0,none⟩) 4 4) 4 (t.map (Value.int .i64))):=za9 own d5;have hb5:=za1 hb d5;have HS : Hid (zc5 k t ⟨sq,cl,tg,⟨k1,nm,ot,at_,va,ep⟩⟩=(zfc ⟨sq,cl,tg,⟨k1,nm,ot,at_,va,ep⟩⟩ && decide (sq=(k : Int)+1) && decide (t.getD cl.toNat 0 < tg))):=rfl;have s5:=za2 k5;obtain ⟨p0,p1,p2,p3,p4,p5,p6,p7,p8⟩:=cq9 k5;have HIN : Hid _:=hin;clear hW5 own hb d5 HC HF hin z5
      go_wp2_with fail
      rw [<- HW5.out];clear HW5 a0 a1 a2 a3 a4 a5 a6 a7 a8 p0 p1 p2 p3 p4 p5 p6 p7 p8;refine (zkh sq cl tg k1 nm ot at_ va ep _ hfe).mono ?_;rintro e w6 ⟨rfl,b6⟩;have hb6:=za1 hb5 b6;have own6:=za9 HO.out b6;have k6:=(b6.block _ s5).trans k5;obtain ⟨p0,p1,p2⟩:=cq3 k6;have hw1 : IntKind.i64.wrap ((k : Int)+1)=(k : Int)+1:=by rw [IntKind.wrap_i64];omega
      obtain ⟨okv,hok⟩ : ∃ x,zfc ⟨sq,cl,tg,⟨k1,nm,ot,at_,va,ep⟩⟩=x:=⟨_,rfl⟩
      have HOK : Hid (zfc ⟨sq,cl,tg,⟨k1,nm,ot,at_,va,ep⟩⟩=okv):=hok;rw [hok];have HK6 : Hid _:=k6;clear hok HO k5 b6 s5 hb5 hfe k6;cases okv
      · have HX : Hid _:=HN.out (show zc5 k t ⟨sq,cl,tg,⟨k1,nm,ot,at_,va,ep⟩⟩=false by rw [HS.out,HOK.out];rfl)
        go_wp2_with fail
        rw [Exit.noGoto_ret];go_ret;exact ⟨zam HX.out.symm,hb6⟩
      have hbd:=zgy HOK.out;simp only at hbd;obtain ⟨C,rfl⟩:=Int.eq_ofNat_of_zero_le hbd.2.2.1.1;have hC : C < 4:=by omega
      clear hbd;by_cases hsq : sq=(k : Int)+1
      · have hj1 : (sq != (k : Int)+1)=false:=by rw [hsq];simp
        have HSQ : Hid (sq=(k : Int)+1):=hsq;clear hsq;have t6:=own6.cellAt C (by omega);have f6:=own6.frozenAt C;rw [List.getElem?_map,List.getElem?_eq_getElem (show C < t.length by omega)] at t6;simp only [Option.map_some] at t6;have HG : Hid (t.getD C 0=t[C]):=by simp [Hid,List.getD,show C < t.length by omega]
        generalize t[C]=y at t6 HG;have i0 : (0 : Int)<=(C : Int):=by omega
        have i1 : (C : Int) < 4:=by omega
        by_cases hty : tg<=y
        · have HX : Hid _:=HN.out (show zc5 k t ⟨sq,(C : Int),tg,⟨k1,nm,ot,at_,va,ep⟩⟩=false by rw [HS.out,show ((C : Int)).toNat=C from rfl,HG.out,decide_eq_false (show ¬ y < tg by omega),Bool.and_false])
          go_wp2_with fail
          go_quiet (fail)
          go_wp2_with fail
          rw [Exit.noGoto_ret];go_ret;exact ⟨zam HX.out.symm,⟨hb6.os,hb6.tape,hb6.output,hb6.size,hb6.block⟩⟩
        have HIX : Hid _:=HY.out (show zc5 k t ⟨sq,(C : Int),tg,⟨k1,nm,ot,at_,va,ep⟩⟩=true by rw [HS.out,show ((C : Int)).toNat=C from rfl,HG.out,HOK.out,decide_eq_true (show y < tg by omega),decide_eq_true HSQ.out];rfl);have htl2 : (t.set C tg).length=4:=by simpa using htl
        have HTL : Hid ((t.set C tg).length=4):=htl2;have HO6 : Hid (w6.ownsRow w.heap.size 191 1 (.slice (some ⟨w.heap.size,0,none⟩) 4 4) 4 (t.map (Value.int .i64))):=own6;clear own6 HS HY HN HOK HG HIN htl htl2
        go_wp2_with fail
        go_quiet (fail)
        generalize hw7 : w6.drewN _=w7;have b7 : Below w6.heap.size w6 w7:=by rw [<- hw7];exact ⟨rfl,rfl,rfl,Nat.le_refl _,fun _ _=>rfl⟩
        clear hw7;have hb7:=za1 hb6 b7;have own7:=za9 HO6.out b7;have k7:=(b7.block _ (za2 HK6.out)).trans HK6.out;have q1:=za0 k7 1;have q2:=za0 k7 2;have t7:=own7.cellAt C (by omega);have f7:=own7.frozenAt C;rw [List.getElem?_map,List.getElem?_eq_getElem (show C < t.length by have:=HTL.out;simp at this;omega)] at t7;simp only [Option.map_some] at t7;generalize t[C]'(by have:=HTL.out;simp at this;omega)=y7 at t7;obtain ⟨hst,hgr⟩:=own7.stored C (.int .i64 tg);rw [<- List.map_set] at hst;have hbf : Below w.heap.size w (w7.setCell ⟨w.heap.size,C,none⟩ (.int .i64 tg)):=zb8 (p:=⟨w.heap.size,C,none⟩) hb7 (by simp) _;have HFI : Hid _:=And.intro hst hbf;have hnt : ¬ tg<=y:=by omega
        clear t6 f6 p0 p1 p2 hst hbf hgr own7 b7 hb7 hb6 HO6 k7 HK6 hty
        go_wp2_with fail
        go_roundw
        case rel=>exact ⟨k+1,t.set C tg,by omega,by go_num,by go_num,HTL.out,HIX.out,HFI.out.1,HFI.out.2⟩
        case measure=>simp [intOf];omega
      · have hj1 : (sq != (k : Int)+1)=true:=by rw [bne_iff_ne];exact hsq
        have HX : Hid _:=HN.out (show zc5 k t ⟨sq,(C : Int),tg,⟨k1,nm,ot,at_,va,ep⟩⟩=false by rw [HS.out,decide_eq_false hsq,Bool.and_false];rfl)
        go_wp2_with fail
        rw [Exit.noGoto_ret];go_ret;exact ⟨zam HX.out.symm,hb6⟩
    · have HE : Hid (((inOrd 0 tags0 l : Nat) : Int)=k):=by rw [Hid,hin.trans (znh hlt)]
      clear HC HF hin own
      go_wp2_with fail
      rw [Exit.noGoto_ret];go_ret;exact ⟨zam HE.out.symm,hb⟩
theorem zht (v : Value) (l : List Ent) (w : World) (hf : ze0 l) (r : ReadsR 9 zbs w.heap.size w v l) :
    Calls Tryz.prog 124 #[v] w fun e w'=>e = .returned (.bool (logOk l))/\Below w.heap.size w w':=by
  obtain ⟨o,cap,rfl⟩:=r.form;have hml : l.length<=maxLen:=by obtain ⟨o',cap',-,hm,-,-⟩:=r;exact hm
  unfold maxLen at hml;by_cases hl : l.length<=120
  · have HB : Hid (logOk l=decide (inOrd 0 tags0 l=l.length)):=by rw [Hid,logOk,decide_eq_true hl,Bool.true_and]
    have hl2 : (l.length : Int)<=120:=by omega
    have hle:=(zpg l 0 tags0).2
    go_enter Tryz.func124,Tryz.ntmps124
    go_wp2_with fail
    refine (zqk _ l _ hf hl r).mono ?_;rintro e w1 ⟨rfl,b1⟩;generalize inOrd 0 tags0 l=n at *
    go_wp2_with fail
    go_ret;exact ⟨za6 (by rw [HB.out,Bool.eq_iff_iff];simp;omega),b1⟩
  · have HB : Hid (logOk l=false):=by rw [Hid,logOk,decide_eq_false hl,Bool.false_and]
    have hl2 : ¬ (l.length : Int)<=120:=by omega
    clear r
    go_enter Tryz.func124,Tryz.ntmps124
    go_wp2_with fail
    go_ret;exact ⟨za6 HB.out.symm,Below.refl _ _⟩
structure OwnW (base : Nat) (w : World) (v1 v2 vb : Value) (cs ps : List Int) (bks : List Bk) : Prop where
  p : OwnP base w v1 v2 cs ps
  b : OwnB base w vb bks
theorem OwnW.below {base : Nat} {w w' : World} {v1 v2 vb : Value} {cs ps : List Int} {bks : List Bk} (h : OwnW base w v1 v2 vb cs ps bks) (k : Below w.heap.size w w') : OwnW base w' v1 v2 vb cs ps bks:=⟨h.p.below k,h.b.below k⟩
theorem OwnW.upto {base c : Nat} {w w' : World} {v1 v2 vb : Value} {cs ps : List Int} {bks : List Bk} (h : OwnW base w v1 v2 vb cs ps bks) (u : Upto c w w') (hc : c < base) : OwnW base w' v1 v2 vb cs ps bks:=⟨h.p.upto u hc,h.b.upto u hc⟩
theorem OwnW.reads {base : Nat} {w : World} {v1 v2 vb : Value} {cs ps : List Int} {bks : List Bk} (h : OwnW base w v1 v2 vb cs ps bks) : RS w.heap.size w v1 v2 vb cs ps bks:=⟨h.p.reads,h.b.reads⟩
theorem OwnW.forms {base : Nat} {w : World} {v1 v2 vb : Value} {cs ps : List Int} {bks : List Bk} (h : OwnW base w v1 v2 vb cs ps bks) : ∃ o1 k1 o2 k2 ob kb,v1 = .slice o1 cs.length k1/\v2 = .slice o2 ps.length k2/\vb = .slice ob bks.length kb:=h.reads.forms
theorem OwnW.box {base n : Nat} {w w' : World} {v1 v2 vb : Value} {cs ps : List Int} {bks : List Bk} {zs : Array Value} {T : TypeId} (h : OwnW base w v1 v2 vb cs ps bks) (k : w.heap[n]? = some (.cells zs T (0,0))) (u : Upto n w w') (h1 : T ≠ 2) (h2 : T ≠ 117) (h3 : T ≠ 172) : OwnW base w' v1 v2 vb cs ps bks:=by
  have st : ∀ (e : TypeId) (kk m : Nat) (v : Value) (xs : List Value),T ≠ e->w.ownsRow base e kk v m xs->w'.ownsRow base e kk v m xs:=fun e kk m v xs he hr=>zai hr (fun q hq hqv=>u.block q hq (fun hx=>zaa hr k he (by rw [<- hx];exact hqv)))
  exact ⟨⟨st _ _ _ _ _ h1 h.p.c,st _ _ _ _ _ h1 h.p.p,h.p.apart⟩,⟨st _ _ _ _ _ h2 h.b.row,fun b hb=>st _ _ _ _ _ h3 (h.b.maps b hb)⟩⟩
theorem OwnS.box {base n : Nat} {w w' : World} {v1 v2 vb : Value} {cs ps : List Int} {bks : List Bk} {zs : Array Value} {T : TypeId} (h : OwnS base w v1 v2 vb cs ps bks) (k : w.heap[n]? = some (.cells zs T (0,0))) (u : Upto n w w') (h1 : T ≠ 2) (h2 : T ≠ 117) (h3 : T ≠ 172) : OwnS base w' v1 v2 vb cs ps bks:=by
  have q:=OwnW.box ⟨h.p,h.b⟩ k u h1 h2 h3;exact ⟨q.p,q.b,h.a⟩
def InS (v1 v2 vb : Value) (bks : List Bk) (g : Nat) : Prop:=v1.ownBlock=some g\/v2.ownBlock=some g\/vb.ownBlock=some g\/∃ b ∈ bks,b.m.ownBlock=some g
theorem OwnS.notBox {base n : Nat} {w : World} {v1 v2 vb : Value} {cs ps : List Int} {bks : List Bk} {zs : Array Value} {T : TypeId} (h : OwnS base w v1 v2 vb cs ps bks) (k : w.heap[n]? = some (.cells zs T (0,0))) (h1 : T ≠ 2) (h2 : T ≠ 117) (h3 : T ≠ 172) : ¬ InS v1 v2 vb bks n:=by
  rintro (e | e | e | ⟨b,hb,e⟩)
  · exact zaa h.p.c k h1 e
  · exact zaa h.p.p k h1 e
  · exact zaa h.b.row k h2 e
  · exact zaa (h.b.maps b hb) k h3 e
theorem zm8 (v1 v2 vb : Value) (cs ps : List Int) (bks : List Bk) (lo : Nat) (k : Int) (w : World) (hk : 0<=k) (hc : cs.length<=1048576) (hp : ps.length<=1048576) (hk2 : zfm k cs ps bks<=1073741824) (hn : ∀ b ∈ bks,b.rs.length<=1048576) (own : OwnS lo w v1 v2 vb cs ps bks) (hlo : lo<=w.heap.size) :
    Calls Tryz.prog 40 #[.agg #[v1,v2,vb],.int .i64 k] w fun e w'=>e = .returned (.int .i64 (zfm k cs ps bks))/\OwnS lo w' v1 v2 vb (zb6 k cs.length) (zb6 (k+cs.length) ps.length) (marksB (k+cs.length+ps.length) bks)/\Only (InS v1 v2 vb bks) w w':=by
  obtain ⟨o1,k1,o2,k2,ob,kb,rfl,rfl,rfl⟩:=own.forms;obtain ⟨W0,hW0,k0,d0,z0⟩:=zb4 w #[.slice o1 cs.length k1,.slice o2 ps.length k2,.slice ob bks.length kb] 30;have own0:=own.below d0;have HW0 : Hid (W0 = _):=hW0;have HN : Hid _:=hn;have hb1:=zaa own0.p.c k0 (by decide);have hb2:=zaa own0.p.p k0 (by decide);have hkm:=zfw bks (k+cs.length+ps.length);unfold zfm at hk2 ⊢;have HB : Hid _:=And.intro hb1 hb2;clear hW0 own hn hb1 hb2
  go_enter Tryz.func40,Tryz.ntmps40
  go_wp2_with fail
  rw [<- HW0.out];clear HW0;refine (zmp _ _ cs ps lo k _ hk hc hp (by omega) own0.p (by omega)).mono ?_;rintro e w1 ⟨rfl,op,q1,q2,q3,q4,q5⟩;have ob1:=own0.b.pooled own0.p q5;have k01:=(q5 _ (by omega) HB.out.1 HB.out.2).trans k0
  have R1 : Only (InS (.slice o1 cs.length k1) (.slice o2 ps.length k2) (.slice ob bks.length kb) bks) w w1:=⟨q1.trans d0.os,q2.trans d0.tape,q3.trans d0.output,by omega,fun i hi' hc=>(q5 i (by omega) (fun h=>hc (.inl h)) (fun h=>hc (.inr (.inl h)))).trans (d0.block i hi')⟩
  have HAP : Hid _:=own0.a;have p2:=za0 k01 2
  have HNB : Hid (∀ i,(Value.slice ob bks.length kb).ownBlock=some i->(Value.slice o1 cs.length k1).ownBlock ≠ some i/\(Value.slice o2 ps.length k2).ownBlock ≠ some i):=fun i h=>⟨zdp own0.p.c own0.b.row (by decide) i h,zdp own0.p.p own0.b.row (by decide) i h⟩
  have HNM : Hid (∀ b ∈ bks,∀ i,b.m.ownBlock=some i->(Value.slice o1 cs.length k1).ownBlock ≠ some i/\(Value.slice o2 ps.length k2).ownBlock ≠ some i):=fun b hb i h=>⟨zdp own0.p.c (own0.b.maps b hb) (by decide) i h,zdp own0.p.p (own0.b.maps b hb) (by decide) i h⟩
  have z1:=R1.size;clear q1 q2 q3 q4 q5 own0 d0 k0 k01
  go_wp2_with fail
  clear p2;refine (zlx _ bks lo (k+cs.length+ps.length) _ (by omega) hk2 HN.out ob1 HAP.out (by omega)).mono ?_;rintro e w2 ⟨rfl,ow2,q1,q2,q3,q4,q5⟩
  have op2 : OwnP lo w2 (.slice o1 cs.length k1) (.slice o2 ps.length k2) (zb6 k cs.length) (zb6 (k+cs.length) ps.length):=⟨zai op.c (fun g hg hv=>q5 g hg (fun h=>(HNB.out g h).1 hv) (fun b hb h=>(HNM.out b hb g h).1 hv)),zai op.p (fun g hg hv=>q5 g hg (fun h=>(HNB.out g h).2 hv) (fun b hb h=>(HNM.out b hb g h).2 hv)),op.apart⟩
  have R2 : Only (InS (.slice o1 cs.length k1) (.slice o2 ps.length k2) (.slice ob bks.length kb) bks) w w2:=R1.trans ⟨q1,q2,q3,q4,fun i hi' hc=>q5 i hi' (fun h=>hc (.inr (.inr (.inl h)))) (fun b hb h=>hc (.inr (.inr (.inr ⟨b,hb,h⟩))))⟩
  have HO : Hid (OwnS lo w2 (.slice o1 cs.length k1) (.slice o2 ps.length k2) (.slice ob bks.length kb) (zb6 k cs.length) (zb6 (k+cs.length) ps.length) (marksB (k+cs.length+ps.length) bks)):=⟨op2,ow2,zpx (marksB_ms _ _) HAP.out⟩
  clear q1 q2 q3 q4 q5 op op2 ow2 R1 ob1
  go_wp2_with fail
  go_ret;exact ⟨rfl,HO.out,R2⟩
end Go.Proofs.YtfkkapdofjhgpaaGreatDoor
