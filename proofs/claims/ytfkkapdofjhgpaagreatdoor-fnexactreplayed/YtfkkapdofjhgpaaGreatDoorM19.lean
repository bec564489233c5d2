import Derived.Laws.CopyOwn
import Derived.Test.YtfkkapdofjhgpaaGreatDoorM01
import Derived.Test.YtfkkapdofjhgpaaGreatDoorM02
import Derived.Test.YtfkkapdofjhgpaaGreatDoorM08
import Derived.Test.YtfkkapdofjhgpaaGreatDoorM18
set_option maxHeartbeats 12800000
namespace Go.Proofs.YtfkkapdofjhgpaaGreatDoor
open Go.RowKit
set_option linter.unusedVariables false
set_option maxRecDepth 100000
theorem zjc (a b c d : Int) (k : Nat) (hk : k < 4) : (#[Value.int .i64 a,.int .i64 b,.int .i64 c,.int .i64 d] : Array Value)[k]? = some (.int .i64 ([a,b,c,d].getD k 0)):=by
  have h : k=0\/k=1\/k=2\/k=3:=by omega
  rcases h with rfl | rfl | rfl | rfl <;> rfl
theorem zlj (a b c d : Int) (k : Nat) (w : World) (hk : k < 4) :
    Calls Tryz.prog 247 #[.agg #[.int .i64 a,.int .i64 b,.int .i64 c,.int .i64 d],.int .i64 k] w fun e w'=>e = .returned (.bool (!decide ([a,b,c,d].getD k 0=0)))/\Below w.heap.size w w':=by
  obtain ⟨W0,hW0,k0,d0,z0⟩:=zb4 w #[.int .i64 a,.int .i64 b,.int .i64 c,.int .i64 d] 192;have HW0 : Hid (W0 = _):=hW0;have p:=(za0 k0 k).trans (zjc a b c d k hk);have i0 : (0 : Int)<=(k : Int):=by omega
  have i1 : (k : Int) < 4:=by omega
  generalize [a,b,c,d].getD k 0=x at p ⊢;clear hW0 k0 z0
  go_enter Tryz.func247,Tryz.ntmps247
  go_upto_region 1 with fail
  rw [<- HW0.out];clear HW0
  go_wp2_with fail
  go_ret;exact ⟨za6 (by by_cases h : x=0 <;> simp [h]),d0⟩
theorem zyv (c : Array Value) (k : Nat) (y : Int) (hk : k < 4) (hck : c[k]? = some (.int .i64 y)) (w : World) : (Instr.index 192 (.agg c) (.int .i64 (k : Int))).run Tryz.prog w = .ok (.int .i64 y) w:=by
  obtain ⟨hlt,hv⟩:=Array.getElem?_eq_some_iff.1 hck;simp [Instr.index,run_underlying Tryz.underlying192,hv,go_sem,hk,hlt]
theorem zmh (a b c d : Int) (w : World) :
    Calls Tryz.prog 214 #[.agg #[.int .i64 a,.int .i64 b,.int .i64 c,.int .i64 d]] w fun e w'=>e = .returned (.bool (zld [a,b,c,d] 4))/\Below w.heap.size w w':=by
  obtain ⟨W0,hW0,k0,d0,z0⟩:=zb4 w #[.int .i64 a,.int .i64 b,.int .i64 c,.int .i64 d] 192;have HW0 : Hid (W0 = _):=hW0;obtain ⟨p0,p1,p2,p3⟩:=cq4 k0;have s0:=za2 k0;clear hW0 z0
  go_enter Tryz.func214,Tryz.ntmps214
  go_upto_region 1 with fail
  rw [<- HW0.out];clear HW0
  go_wp2_with fail
  clear p0 p1 p2 p3
  go_loopw [6] (fun i wr=>∃ k : Nat,k<=4/\i = .int .i64 k/\zld [a,b,c,d] k=true/\Below W0.heap.size W0 wr) (fun i _=>4 - (intOf i).toNat)
  case atStart=>exact ⟨0,Nat.zero_le _,rfl,rfl,Below.refl _ _⟩
  case round =>
    obtain ⟨k,hk,rfl,hall,hb⟩:=hrel;have HA : Hid (zld [a,b,c,d] k=true):=hall;have kr:=(hb.block _ s0).trans k0;have dr:=za1 d0 hb;clear hall;by_cases hlt : k < 4
    · have hix:=zyv _ k _ hlt (zjc a b c d k hlt)
      have HY : Hid (zlc ([a,b,c,d].getD k 0)=true->zld [a,b,c,d] (k+1)=true):=fun h=>by rw [zld,allB_succ,Bool.and_eq_true];exact ⟨HA.out,h⟩
      have HN : Hid (zlc ([a,b,c,d].getD k 0)=false->zld [a,b,c,d] 4=false):=fun h=>zlf _ 4 k hlt h
      have HH:=fun W=>zlj a b c d k W hlt
      generalize [a,b,c,d].getD k 0=x at hix HY HN HH;have HT : Hid (zlc x = !(!decide (x=0) && !inB x 1 1000)):=rfl;have i0 : (0 : Int)<=(k : Int):=by omega
      have i1 : (k : Int) < 4:=by omega
      obtain ⟨p0,p1,p2,p3⟩:=cq4 kr;clear HA
      go_wp2_with fail
      refine (HH _).mono ?_;rintro e w3 ⟨rfl,b3⟩;have hb3:=za1 hb b3;have dr3:=za1 dr b3;clear HH hb dr b3 kr p0 p1 p2 p3;by_cases hx : x=0
      · have HF : Hid _:=HY.out (by rw [HT.out,decide_eq_true hx];rfl)
        rw [decide_eq_true hx];clear hx
        go_wp2_with fail
        go_roundw
        case rel=>exact ⟨k+1,by omega,by go_num,HF.out,hb3⟩
        case measure=>simp [intOf];omega
      · rw [decide_eq_false hx]
        rw [decide_eq_false hx] at HT
        go_wp2_with fail
        refine (zjb x _).mono ?_;rintro e w4 ⟨rfl,rfl⟩;generalize inB x 1 1000=bT at HT ⊢;cases bT
        · have HF : Hid _:=HN.out (by rw [HT.out];rfl)
          go_wp2_with fail
          go_ret;exact ⟨za6 HF.out.symm,dr3⟩
        · have HF : Hid _:=HY.out (by rw [HT.out];rfl)
          go_wp2_with fail
          go_roundw
          case rel=>exact ⟨k+1,by omega,by go_num,HF.out,hb3⟩
          case measure=>simp [intOf];omega
    · obtain rfl : k=4:=by omega
      go_wp2_with fail
      go_ret;exact ⟨za6 HA.out.symm,dr⟩
theorem zvy (a0 a1 b0 b1 c0 c1 d0 d1 : Int) (w : World) : (Instr.index 193 (.agg #[.int .i64 a0,.int .i64 a1,.int .i64 b0,.int .i64 b1,.int .i64 c0,.int .i64 c1,.int .i64 d0,.int .i64 d1]) (.int .i64 0)).run Tryz.prog w = .ok (.agg #[.int .i64 a0,.int .i64 a1]) w:=by kernel_rfl
theorem zvz (a0 a1 b0 b1 c0 c1 d0 d1 : Int) (w : World) : (Instr.index 193 (.agg #[.int .i64 a0,.int .i64 a1,.int .i64 b0,.int .i64 b1,.int .i64 c0,.int .i64 c1,.int .i64 d0,.int .i64 d1]) (.int .i64 1)).run Tryz.prog w = .ok (.agg #[.int .i64 b0,.int .i64 b1]) w:=by kernel_rfl
theorem zw0 (a0 a1 b0 b1 c0 c1 d0 d1 : Int) (w : World) : (Instr.index 193 (.agg #[.int .i64 a0,.int .i64 a1,.int .i64 b0,.int .i64 b1,.int .i64 c0,.int .i64 c1,.int .i64 d0,.int .i64 d1]) (.int .i64 2)).run Tryz.prog w = .ok (.agg #[.int .i64 c0,.int .i64 c1]) w:=by kernel_rfl
theorem zw1 (a0 a1 b0 b1 c0 c1 d0 d1 : Int) (w : World) : (Instr.index 193 (.agg #[.int .i64 a0,.int .i64 a1,.int .i64 b0,.int .i64 b1,.int .i64 c0,.int .i64 c1,.int .i64 d0,.int .i64 d1]) (.int .i64 3)).run Tryz.prog w = .ok (.agg #[.int .i64 d0,.int .i64 d1]) w:=by kernel_rfl
theorem zxo (a0 a1 b0 b1 c0 c1 d0 d1 : Int) (k : Nat) (hk : k < 4) (w : World) : (Instr.index 193 (.agg #[.int .i64 a0,.int .i64 a1,.int .i64 b0,.int .i64 b1,.int .i64 c0,.int .i64 c1,.int .i64 d0,.int .i64 d1]) (.int .i64 (k : Int))).run Tryz.prog w = .ok (.agg #[.int .i64 ([(a0,a1),(b0,b1),(c0,c1),(d0,d1)].getD k (0,0)).1,.int .i64 ([(a0,a1),(b0,b1),(c0,c1),(d0,d1)].getD k (0,0)).2]) w:=by
  have h : k=0\/k=1\/k=2\/k=3:=by omega
  rcases h with rfl | rfl | rfl | rfl
  · exact zvy a0 a1 b0 b1 c0 c1 d0 d1 w
  · exact zvz a0 a1 b0 b1 c0 c1 d0 d1 w
  · exact zw0 a0 a1 b0 b1 c0 c1 d0 d1 w
  · exact zw1 a0 a1 b0 b1 c0 c1 d0 d1 w
theorem zjd (a b c d a0 a1 b0 b1 c0 c1 e0 e1 : Int) (w : World) :
    Calls Tryz.prog 215 #[.agg #[.int .i64 a,.int .i64 b,.int .i64 c,.int .i64 d,.int .i64 a0,.int .i64 a1,.int .i64 b0,.int .i64 b1,.int .i64 c0,.int .i64 c1,.int .i64 e0,.int .i64 e1]] w fun e w'=>e = .returned (.bool (zle [a,b,c,d] [(a0,a1),(b0,b1),(c0,c1),(e0,e1)] 4))/\Below w.heap.size w w':=by
  obtain ⟨W0,hW0,k0,d0,z0⟩:=zb4 w #[.int .i64 a,.int .i64 b,.int .i64 c,.int .i64 d,.int .i64 a0,.int .i64 a1,.int .i64 b0,.int .i64 b1,.int .i64 c0,.int .i64 c1,.int .i64 e0,.int .i64 e1] 195;have HW0 : Hid (W0 = _):=hW0;have p4:=za0 k0 4;have p5:=za0 k0 5;have p6:=za0 k0 6;have p7:=za0 k0 7;have p8:=za0 k0 8;have p9:=za0 k0 9;have pa:=za0 k0 10;have pb:=za0 k0 11;have s0:=za2 k0;clear hW0 z0
  go_enter Tryz.func215,Tryz.ntmps215
  go_upto_region 1 with fail
  rw [<- HW0.out];clear HW0
  go_wp2_with fail
  clear p4 p5 p6 p7 p8 p9 pa pb
  go_loopw [7] (fun i wr=>∃ k : Nat,k<=4/\i = .int .i64 k/\zle [a,b,c,d] [(a0,a1),(b0,b1),(c0,c1),(e0,e1)] k=true/\Below W0.heap.size W0 wr) (fun i _=>4 - (intOf i).toNat)
  case atStart=>exact ⟨0,Nat.zero_le _,rfl,rfl,Below.refl _ _⟩
  case round =>
    obtain ⟨k,hk,rfl,hall,hb⟩:=hrel;have HA : Hid (zle [a,b,c,d] [(a0,a1),(b0,b1),(c0,c1),(e0,e1)] k=true):=hall;have kr:=(hb.block _ s0).trans k0;have dr:=za1 d0 hb;clear hall;by_cases hlt : k < 4
    · have hix:=zxo a0 a1 b0 b1 c0 c1 e0 e1 k hlt
      have HY : Hid (repAt ([a,b,c,d].getD k 0) ([(a0,a1),(b0,b1),(c0,c1),(e0,e1)].getD k (0,0))=true->zle [a,b,c,d] [(a0,a1),(b0,b1),(c0,c1),(e0,e1)] (k+1)=true):=fun h=>by rw [zle,allB_succ,Bool.and_eq_true];exact ⟨HA.out,h⟩
      have HN : Hid (repAt ([a,b,c,d].getD k 0) ([(a0,a1),(b0,b1),(c0,c1),(e0,e1)].getD k (0,0))=false->zle [a,b,c,d] [(a0,a1),(b0,b1),(c0,c1),(e0,e1)] 4=false):=fun h=>zlf _ 4 k hlt h
      have HH:=fun W=>zlj a b c d k W hlt
      generalize [a,b,c,d].getD k 0=x at HY HN HH;generalize [(a0,a1),(b0,b1),(c0,c1),(e0,e1)].getD k (0,0)=rr at hix HY HN;obtain ⟨rc,rv⟩:=rr;simp only at hix;have HT : Hid (repAt x (rc,rv)=(ze4 rc rv && (!decide (x=0) || decide ((rc,rv)=(0,0))))):=rfl;have i0 : (0 : Int)<=(k : Int):=by omega
      have i1 : (k : Int) < 4:=by omega
      have hg:=Tryz.eqGuardType43;obtain ⟨W1,hW1,k1,b1,z1⟩:=zb4 wr #[.int .i64 rc,.int .i64 rv] 43;have HW1 : Hid (W1 = _):=hW1;replace kr:=kb0 b1 kr;replace hb:=za1 hb b1;replace dr:=za1 dr b1;clear HA hW1 z1 b1
      go_upto_region 4 with fail
      rw [<- HW1.out];clear HW1 hix;generalize wr.heap.size=nB at *;obtain ⟨f0,f1⟩:=cq2 k1
      go_wp2_with fail
      refine (zgh rc rv _).mono ?_;rintro e w3 ⟨rfl,b3⟩;replace kr:=kb0 b3 kr;replace k1:=kb0 b3 k1;replace hb:=za1 hb b3;replace dr:=za1 dr b3;clear b3 f0 f1;generalize ze4 rc rv=bR at HT ⊢;cases bR
      · have HF : Hid _:=HN.out (by rw [HT.out];rfl)
        go_wp2_with fail
        go_ret;exact ⟨za6 HF.out.symm,dr⟩
      obtain ⟨p0,p1,p2,p3⟩:=cq4 kr
      go_wp2_with fail
      refine (HH _).mono ?_;rintro e w4 ⟨rfl,b4⟩;replace k1:=kb0 b4 k1;replace hb:=za1 hb b4;replace dr:=za1 dr b4;clear b4 kr HH p0 p1 p2 p3;by_cases hx : x=0
      · rw [decide_eq_true hx]
        obtain ⟨bb,hbb⟩ : ∃ y,decide ((rc,rv)=((0 : Int),(0 : Int)))=y:=⟨_,rfl⟩
        have HEQ : ∀ W : World,(Op.equalIn 10000 43 (.agg #[.int .i64 rc,.int .i64 rv]) (.agg #[.int .i64 0,.int .i64 0])).run Tryz.prog W = .ok bb W:=fun W=>by rw [<- hbb];exact zto _ _ _ _ W
        have HM2 : Hid (repAt x (rc,rv)=bb):=by rw [Hid,HT.out,hbb,decide_eq_true hx];rfl
        obtain ⟨f0,f1⟩:=cq2 k1;clear hbb HT hx k1;cases bb
        · have HF : Hid _:=HN.out HM2.out
          go_wp2_with fail
          go_ret;exact ⟨za6 HF.out.symm,dr⟩
        · have HF : Hid _:=HY.out HM2.out
          go_wp2_with fail
          go_roundw
          case rel=>exact ⟨k+1,by omega,by go_num,HF.out,hb⟩
          case measure=>simp [intOf];omega
      · have HF : Hid _:=HY.out (by rw [HT.out,decide_eq_false hx];rfl)
        rw [decide_eq_false hx];clear hx
        go_wp2_with fail
        go_roundw
        case rel=>exact ⟨k+1,by omega,by go_num,HF.out,hb⟩
        case measure=>simp [intOf];omega
    · obtain rfl : k=4:=by omega
      go_wp2_with fail
      go_ret;exact ⟨za6 HA.out.symm,dr⟩
theorem zlk (a b c d client tag : Int) (w : World) :
    Calls Tryz.prog 190 #[.agg #[.int .i64 a,.int .i64 b,.int .i64 c,.int .i64 d],.int .i64 client,.int .i64 tag] w fun e w'=>e = .returned (.int .i64 (zdw [a,b,c,d] client tag))/\Below w.heap.size w w':=by
  obtain ⟨W0,hW0,k0,d0,z0⟩:=zb4 w #[.int .i64 a,.int .i64 b,.int .i64 c,.int .i64 d] 192;have HW0 : Hid (W0 = _):=hW0;have HT : Hid (zdw [a,b,c,d] client tag=if inB client 0 3=true/\inB tag 1 1000=true then knownIn [a,b,c,d] client tag else -1):=rfl;have HCB : Hid (inB client 0 3=true->0<=client/\client<=3):=fun h=>(inB_iff _ _ _).1 h
  clear hW0 z0
  go_enter Tryz.func190,Tryz.ntmps190
  go_upto_region 1 with fail
  rw [<- HW0.out];clear HW0
  go_wp2_with fail
  refine (zij client _).mono ?_;rintro e w1 ⟨rfl,rfl⟩;generalize inB client 0 3=bC at HT HCB ⊢;cases bC
  · go_wp2_with fail
    go_ret;exact ⟨zam (by rw [HT.out];rfl),d0⟩
  go_wp2_with fail
  refine (zjb tag _).mono ?_;rintro e w1 ⟨rfl,rfl⟩;generalize inB tag 1 1000=bT at HT ⊢;cases bT
  · go_wp2_with fail
    go_ret;exact ⟨zam (by rw [HT.out];rfl),d0⟩
  rw [if_pos (by simp)] at HT;obtain ⟨hc0,hc3⟩:=HCB.out (by simp);obtain ⟨C,rfl⟩:=Int.eq_ofNat_of_zero_le hc0;have hC : C < 4:=by omega
  have p:=(za0 k0 C).trans (zjc a b c d C hC);have HV : Hid (knownIn [a,b,c,d] (C : Int) tag=if [a,b,c,d].getD C 0 < tag then 0 else if tag = [a,b,c,d].getD C 0 then 1 else 2):=rfl;generalize [a,b,c,d].getD C 0=x at p HV;have i0 : (0 : Int)<=(C : Int):=by omega
  have i1 : (C : Int) < 4:=by omega
  clear HCB hc0 hc3 k0;by_cases hx : x < tag
  · rw [if_pos hx] at HV
    go_wp2_with fail
    go_ret;exact ⟨zam (by rw [HT.out,HV.out]),d0⟩
  · rw [if_neg hx] at HV
    by_cases he : tag=x
    · rw [if_pos he] at HV
      subst he
      go_wp2_with fail
      go_ret;exact ⟨zam (by rw [HT.out,HV.out]),d0⟩
    · rw [if_neg he] at HV
      have hb : (tag == x)=false:=by rw [beq_eq_false_iff_ne];exact he
      go_wp2_with fail
      go_ret;exact ⟨zam (by rw [HT.out,HV.out]),d0⟩
theorem zo4 {P : Program} (w : World) (T ty e : TypeId) (hu : P.underlying T=some (.slice e)) (hsz : (P.info? e).map (·.size)=some 1)
    (base g n cap : Nat) (ys news : List Value) (hown : w.ownsRow base e 1 (.slice (some ⟨g,0,none⟩) n cap) n ys)
    (ad : Option Addr) (c : Nat) (hl : news.length=n) (hnews : ∀ j u,news[j]? = some u->∃ g off,ad=some ⟨g,off,none⟩/\w.cell? ⟨g,off+j,none⟩=some u) (h1 : ∀ u ∈ news,u.oneCell'=true) :
    ∃ w',(Builtin.copy_ #[T,T] ty #[.slice (some ⟨g,0,none⟩) n cap,.slice ad n c]).run P w = .ok (.int .i64 n) w'/\w'.ownsRow base e 1 (.slice (some ⟨g,0,none⟩) n cap) n news/\Upto g w w':=by
  rcases Nat.eq_zero_or_pos n with hn | hn
  · subst hn
    have e1 : news = []:=List.length_eq_zero_iff.1 hl;have e2 : ys = []:=List.length_eq_zero_iff.1 (by simpa using hown.1);subst e1;subst e2;exact ⟨w,run_copy_none (P:=P) w T T ty e _ _ 0 cap 0 c hu hsz rfl,hown,Upto.refl _ _⟩
  · obtain ⟨g',off,rfl,_⟩:=hnews 0 _ (List.getElem?_eq_getElem (show 0 < news.length by omega))
    have hsrc : ∀ j v,news[j]? = some v->w.cell? ((⟨g',off,none⟩ : Addr).add j)=some v:=fun j u hj=>by
      obtain ⟨g2,off2,e2,hc⟩:=hnews j u hj;cases e2;have ea : (⟨g',off,none⟩ : Addr).add j=⟨g',off+j,none⟩:=by unfold Addr.add;split <;> simp_all
      rw [ea];exact hc
    rcases hown.2 with ⟨h',_⟩ | ⟨g2,cap2,cur,h',hbg,hg,hnc,hcm,hcs,htake⟩
    · cases h'
    · simp only [Value.slice.injEq,Option.some.injEq,Addr.mk.injEq,and_true,true_and] at h'
      obtain ⟨rfl,rfl⟩:=h';have hr:=run_copy_row (P:=P) w T T ty e g 0 n cap ⟨g',off,none⟩ n c cur e news hu hsz hg (by rw [hl];exact (Nat.min_self n).symm) hsrc (by omega) h1;rw [hl] at hr;refine ⟨_,hr,⟨by omega,.inr ⟨g,cap,_,rfl,hbg,setRow_heap w g cur _ e _ hg,hnc,hcm,?_,?_⟩⟩,⟨rfl,rfl,rfl,by simp,fun k _ hk=>setRow_other w g k _ hk⟩⟩
      · simp;omega
      · rw [Nat.mul_one,List.take_zero,List.nil_append,<- hl]
        exact List.take_left
theorem zdh (n : Int) (w : World) :
    Calls Tryz.prog 194 #[.int .i64 n] w fun e w'=>e = .returned (.bool (decide (1<=n) && decide (n<=24)))/\w'=w:=by
  by_cases h : (1 : Int)<=n
  · go_enter Tryz.func194,Tryz.ntmps194
    go_wp2
    go_ret;exact ⟨za6 (by simp [h]),rfl⟩
  · go_enter Tryz.func194,Tryz.ntmps194
    go_wp2
    go_ret;exact ⟨za6 (by simp;omega),rfl⟩
theorem zfd (n : Int) (w : World) :
    Calls Tryz.prog 271 #[.int .i64 n] w fun e w'=>e = .returned (.bool (decide (0<=n) && decide (n<=999)))/\w'=w:=by
  by_cases h : (0 : Int)<=n
  · go_enter Tryz.func271,Tryz.ntmps271
    go_wp2
    go_ret;exact ⟨za6 (by simp [h]),rfl⟩
  · go_enter Tryz.func271,Tryz.ntmps271
    go_wp2
    go_ret;exact ⟨za6 (by simp;omega),rfl⟩
theorem zrp (c p : Int) (w : World) :
    Calls Tryz.prog 251 #[.int .i64 c,.int .i64 p] w fun e w'=>e = .returned (.bool (zcc c p))/\w'=w:=by
  by_cases h1 : c < 0
  · have hv : zcc c p=false:=by simp [zcc];omega
    rw [hv]
    go_enter Tryz.func251,Tryz.ntmps251
    go_wp2
    go_ret;exact ⟨rfl,rfl⟩
  by_cases h2 : (400 : Int) < c
  · have hv : zcc c p=false:=by simp [zcc];omega
    rw [hv]
    go_enter Tryz.func251,Tryz.ntmps251
    go_wp2
    go_ret;exact ⟨rfl,rfl⟩
  cases hp : (decide (0<=p) && decide (p<=999))
  · have hv : zcc c p=false:=by simp [zcc,hp]
    rw [hv]
    go_enter Tryz.func251,Tryz.ntmps251
    go_wp2_with fail
    refine (zfd _ _).mono ?_;rintro e w' ⟨rfl,rfl⟩;rw [hp]
    go_wp2_with fail
    go_ret;exact ⟨rfl,rfl⟩
  · by_cases h3 : 0 < c
    · have hv : zcc c p=true:=(cellOk_iff c p).2 (by simp at hp;omega)
      rw [hv]
      go_enter Tryz.func251,Tryz.ntmps251
      go_wp2_with fail
      refine (zfd _ _).mono ?_;rintro e w' ⟨rfl,rfl⟩;rw [hp]
      go_wp2_with fail
      go_ret;exact ⟨rfl,rfl⟩
    · have hv : zcc c p=(p == 0):=by
        rw [Bool.eq_iff_iff,cellOk_iff,beq_iff_eq];simp at hp;omega
      rw [hv]
      go_enter Tryz.func251,Tryz.ntmps251
      go_wp2_with fail
      refine (zfd _ _).mono ?_;rintro e w' ⟨rfl,rfl⟩;rw [hp]
      go_wp2_with fail
      go_ret;have hd : decide (0 < c)=false:=by simp;omega
      exact ⟨za6 (by simp [hd]),rfl⟩
theorem zdz (v1 v2 : Value) (cs ps : List Int) (w : World) (h1 : Reads w.heap.size w v1 (cs.map (Value.int .i64))) (h2 : Reads w.heap.size w v2 (ps.map (Value.int .i64))) :
    Calls Tryz.prog 224 #[.agg #[v1,v2]] w fun e w'=>e = .returned (.bool (poolOk cs ps))/\Below w.heap.size w w':=by
  obtain ⟨o1,cap1,rfl,m1,c1,-⟩:=h1;obtain ⟨o2,cap2,rfl,m2,c2,-⟩:=h2;simp only [List.length_map] at m1 m2 ⊢;have C1 : Hid (∀ j u,(cs.map (Value.int .i64))[j]? = some u->∃ g off,o1=some ⟨g,off,none⟩/\g < w.heap.size/\w.cell? ⟨g,off+j,none⟩=some u):=c1;have C2 : Hid (∀ j u,(ps.map (Value.int .i64))[j]? = some u->∃ g off,o2=some ⟨g,off,none⟩/\g < w.heap.size/\w.cell? ⟨g,off+j,none⟩=some u):=c2;clear c1 c2;unfold maxLen at m1 m2;obtain ⟨W0,hW0,k0,d0,z0⟩:=zl4 w (.slice o1 cs.length cap1) (.slice o2 ps.length cap2) 27;have HW0 : Hid (W0 = _):=hW0;obtain ⟨p0,p1⟩:=cq2 k0;clear hW0 k0;by_cases he : ps.length=cs.length
  · have hne : ((cs.length : Int) != (ps.length : Int))=false:=by simp [he]
    have HE : Hid (ps.length=cs.length):=he;have he1 : ps.length<=cs.length:=by omega
    have he2 : cs.length<=ps.length:=by omega
    clear he;cases hl : (decide ((1 : Int)<=(cs.length : Int)) && decide ((cs.length : Int)<=24))
    · have hv : poolOk cs ps=false:=ziy cs ps fun q=>by simp at hl;omega
      rw [hv]
      go_enter Tryz.func224,Tryz.ntmps224
      go_wp2_with fail
      rw [<- HW0.out];clear HW0;refine (zdh _ _).mono ?_;rintro e w' ⟨rfl,rfl⟩;rw [hl]
      go_wp2_with fail
      go_ret;exact ⟨rfl,d0⟩
    · have hb : 1<=cs.length/\cs.length<=24:=by simp at hl;omega
      go_enter Tryz.func224,Tryz.ntmps224
      go_wp2_with fail
      rw [<- HW0.out];clear HW0;refine (zdh _ _).mono ?_;rintro e w' ⟨rfl,rfl⟩;rw [hl]
      go_wp2_with fail
      go_loopw [22] (fun i wr=>∃ k : Nat,k<=cs.length/\i = .int .i64 k/\(∀ j,j < k->zcc (cs.getD j 0) (ps.getD j 0)=true)/\wr=w') (fun i _=>cs.length - (intOf i).toNat)
      case atStart=>exact ⟨0,Nat.zero_le _,rfl,fun j hj=>by omega,rfl⟩
      case round =>
        obtain ⟨k,hk,rfl,hall,rfl⟩:=hrel;have HA : Hid (∀ j,j < k->zcc (cs.getD j 0) (ps.getD j 0)=true):=hall;clear hall;by_cases hlt : k < cs.length
        · obtain ⟨g1,of1,rfl,q1,cc1⟩:=C1.out k _ (getD_some cs k hlt)
          obtain ⟨g2,of2,rfl,q2,cc2⟩:=C2.out k _ (getD_some ps k (by omega));have d1:=(d0.cell (p:=⟨g1,of1+k,none⟩) q1).trans cc1;have d2:=(d0.cell (p:=⟨g2,of2+k,none⟩) q2).trans cc2
          have HN : Hid (zcc (cs.getD k 0) (ps.getD k 0)=true->∀ j,j < k+1->zcc (cs.getD j 0) (ps.getD j 0)=true):=fun h j hj=>by
            rcases Nat.lt_or_ge j k with q | q
            · exact HA.out j q
            · obtain rfl : j=k:=by omega
              exact h
          have HNo : Hid (zcc (cs.getD k 0) (ps.getD k 0)=false->poolOk cs ps=false):=fun h=>ziy cs ps fun q=>by rw [q.2.2.2 k hlt] at h;cases h
          clear C1 C2 cc1 cc2 HA;have hle2 : (k : Int) < (ps.length : Int):=by rw [HE.out];omega
          generalize cs.getD k 0=c at *;generalize ps.getD k 0=p at *
          go_wp2_with fail
          refine (zrp c p _).mono ?_;rintro e w1 ⟨rfl,rfl⟩;cases hc : zcc c p
          · go_wp2_with fail
            go_ret;exact ⟨za6 (HNo.out hc).symm,d0⟩
          · have HNN : Hid _:=HN.out hc
            go_wp2_with fail
            go_roundw
            case rel=>exact ⟨k+1,by omega,by go_num,HNN.out,by trivial⟩
            case measure=>simp [intOf];omega
        · have hv : poolOk cs ps=true:=(poolOk_iff cs ps).2 ⟨hb.1,hb.2,HE.out,fun j hj=>HA.out j (by omega)⟩
          go_wp2_with fail
          go_ret;exact ⟨za6 hv.symm,d0⟩
  · have hne : ((cs.length : Int) != (ps.length : Int))=true:=by simp;omega
    have hv : poolOk cs ps=false:=ziy cs ps fun q=>he q.2.2.1
    rw [hv]
    go_enter Tryz.func224,Tryz.ntmps224
    go_wp2_with fail
    rw [<- HW0.out];clear HW0
    go_wp2_with fail
    go_ret;exact ⟨rfl,d0⟩
theorem zk9 (n : Int) (w : World) :
    Calls Tryz.prog 174 #[.int .i64 n] w fun e w'=>∃ u1 u2 : Value,e = .returned (.tuple #[.agg #[u1,u2],.bool (zao n).2])/\OwnP w.heap.size w' u1 u2 (zao n).1.1 (zao n).1.2/\Below w.heap.size w w':=by
  obtain ⟨W0,hW0,k0,d0,z0⟩:=zl4 w (.slice none 0 0) (.slice none 0 0) 27;have HW0 : Hid (W0 = _):=hW0;obtain ⟨p0,p1⟩:=cq2 k0;obtain ⟨f0,f1⟩:=oq2 k0;clear hW0;cases hn : (decide ((1 : Int)<=n) && decide (n<=24))
  · have hv : zao n=(([],[]),false):=by
      unfold zao;rw [if_neg];rintro ⟨h1,h2⟩;simp [h1,h2] at hn
    rw [hv];have HS : Hid _:=zcd w W0 (.slice none 0 0) (.slice none 0 0) _ _ w.heap.size [] [] (Nat.le_refl _) k0 (OwnP.nil _ _) d0;clear hv k0
    go_enter Tryz.func174,Tryz.ntmps174
    go_wp2_with fail
    rw [<- HW0.out];refine (zdh _ _).mono ?_;rintro e w' ⟨rfl,rfl⟩;rw [hn]
    go_wp2_with fail
    exact bodyPost_ret (v:=.tuple #[.agg #[.slice none 0 0,.slice none 0 0],.bool false]) (by simp [results,Tryz.results174,go_sem,za0 HS.out.1]) rfl ⟨_,_,rfl,HS.out.2⟩
  · have hb : 1<=n/\n<=24:=by simpa using hn
    obtain ⟨m,rfl⟩:=Int.eq_ofNat_of_zero_le (show 0<=n by omega)
    have hv : zao (m : Int)=((List.replicate m 0,List.replicate m 0),true):=by
      unfold zao;rw [if_pos hb,Int.toNat_natCast]
    rw [hv];obtain ⟨M,hM,hmk,hown⟩:=zfr m (by omega);clear hv
    go_enter Tryz.func174,Tryz.ntmps174
    go_wp2_with fail
    rw [<- HW0.out];refine (zdh _ _).mono ?_;rintro e w' ⟨rfl,rfl⟩;rw [hn]
    go_wp2_with fail
    go_region
    · have HS : Hid _:=zkm k0 d0 z0 hown (w.heap.size+1) (w.heap.size+1+1) (.inl ⟨rfl,rfl⟩)
      clear k0 d0 hown hmk HW0
      go_wp2_with fail
      exact bodyPost_ret (v:=.tuple #[.agg #[.slice (some ⟨w.heap.size+1,0,none⟩) m m,.slice (some ⟨w.heap.size+1+1,0,none⟩) m m],.bool true]) (by simp [results,Tryz.results174,go_sem,za0 HS.out.1]) rfl ⟨_,_,rfl,HS.out.2⟩
    · have HS : Hid _:=zkm k0 d0 z0 hown (w.heap.size+1+1) (w.heap.size+1) (.inr ⟨rfl,rfl⟩)
      clear k0 d0 hown hmk HW0
      go_wp2_with fail
      exact bodyPost_ret (v:=.tuple #[.agg #[.slice (some ⟨w.heap.size+1+1,0,none⟩) m m,.slice (some ⟨w.heap.size+1,0,none⟩) m m],.bool true]) (by simp [results,Tryz.results174,go_sem,za0 HS.out.1]) rfl ⟨_,_,rfl,HS.out.2⟩
theorem ztq (v : Value) (cs : List Int) (w : World) (h1 : Reads w.heap.size w v (cs.map (Value.int .i64))) :
    Calls Tryz.prog 279 #[v,.int .i64 0] w fun e w'=>e = .returned (.int .i64 (tookAt cs))/\w'=w:=by
  obtain ⟨o1,cap1,rfl,m1,c1,-⟩:=h1;simp only [List.length_map] at m1 ⊢;have C1 : Hid (∀ j u,(cs.map (Value.int .i64))[j]? = some u->∃ g off,o1=some ⟨g,off,none⟩/\g < w.heap.size/\w.cell? ⟨g,off+j,none⟩=some u):=c1;unfold maxLen at m1;clear c1
  go_enter Tryz.func279,Tryz.ntmps279
  go_wp2_with fail
  go_loopw [8] (fun i wr=>∃ k : Nat,k<=cs.length/\i = .int .i64 k/\(∀ j,j < k->cs.getD j 0 ≠ 0)/\wr=w) (fun i _=>cs.length - (intOf i).toNat)
  case atStart=>exact ⟨0,Nat.zero_le _,rfl,fun j hj=>by omega,rfl⟩
  case round =>
    obtain ⟨q,hq,rfl,hall,rfl⟩:=hrel;have HA : Hid (∀ j,j < q->cs.getD j 0 ≠ 0):=hall;clear hall;by_cases hlt : q < cs.length
    · obtain ⟨g1,of1,rfl,q1,cc1⟩:=C1.out q _ (getD_some cs q hlt)
      clear C1;by_cases hz : cs.getD q 0=0
      · have hf:=zia cs q hlt hz HA.out
        have HR : Hid (tookAt cs=q):=by rw [Hid,tookAt,hf,if_pos hlt]
        rw [hz] at cc1;clear hf hz HA
        go_wp2_with fail
        go_ret;exact ⟨zam HR.out.symm,rfl⟩
      · have HNN : Hid (∀ j,j < q+1->cs.getD j 0 ≠ 0):=fun j hj=>by
          rcases Nat.lt_or_ge j q with r | r
          · exact HA.out j r
          · obtain rfl : j=q:=by omega
            exact hz
        have hz1 : ((0 : Int) == cs.getD q 0)=false:=by rw [beq_eq_false_iff_ne];exact fun h=>hz h.symm
        clear HA;generalize cs.getD q 0=x at cc1 hz1 hz
        go_wp2_with fail
        go_roundw
        case rel=>exact ⟨q+1,by omega,by go_num,HNN.out,by trivial⟩
        case measure=>simp [intOf];omega
    · have hf:=zgl cs (fun j hj=>HA.out j (by omega))
      have HR : Hid (tookAt cs = -1):=by rw [Hid,tookAt,hf,if_neg (by omega)]
      clear hf HA C1
      go_wp2_with fail
      go_ret;exact ⟨zam HR.out.symm,rfl⟩
theorem zfe (v1 v2 : Value) (cs : List Int) (at_ : Int) (w : World) (h1 : Reads w.heap.size w v1 (cs.map (Value.int .i64))) :
    Calls Tryz.prog 253 #[.agg #[v1,v2],.int .i64 at_] w fun e w'=>e = .returned (.int .i64 (zas cs at_))/\Below w.heap.size w w':=by
  obtain ⟨o1,cap1,rfl,m1,c1,-⟩:=h1;simp only [List.length_map] at m1 ⊢;unfold maxLen at m1;by_cases h0 : 0<=at_
  · by_cases hlt : at_ < (cs.length : Int)
    · obtain ⟨k,rfl⟩:=Int.eq_ofNat_of_zero_le h0
      have hk : k < cs.length:=by omega
      have hv : zas cs (k : Int)=cs.getD k 0:=zeu cs k hk;rw [hv];obtain ⟨g1,of1,rfl,q1,cc1⟩:=c1 k _ (getD_some cs k hk);have hne : ¬ g1=w.heap.size:=by omega
      clear c1 hv;generalize cs.getD k 0=c at *
      go_enter Tryz.func253,Tryz.ntmps253
      go_wp2_with fail
      go_ret;exact ⟨rfl,za3 (Below.refl _ _)⟩
    · have hv : zas cs at_=0:=by unfold zas;rw [if_neg (by omega)]
      rw [hv];clear c1 hv
      go_enter Tryz.func253,Tryz.ntmps253
      go_wp2_with fail
      go_ret;exact ⟨rfl,za3 (Below.refl _ _)⟩
  · have hv : zas cs at_=0:=by unfold zas;rw [if_neg (by omega)]
    rw [hv];clear c1 hv
    go_enter Tryz.func253,Tryz.ntmps253
    go_wp2_with fail
    go_ret;exact ⟨rfl,za3 (Below.refl _ _)⟩
theorem zef (v : Value) (xs : List Int) (w : World) (hn : xs.length<=1048576) (h : Reads w.heap.size w v (xs.map (Value.int .i64))) :
    Calls Tryz.prog 195 #[v] w fun e w'=>∃ v' : Value,e = .returned v'/\w'.ownsRow w.heap.size 2 1 v' xs.length (xs.map (Value.int .i64))/\v' ≠ .slice none 0 0/\Below w.heap.size w w':=by
  obtain ⟨i0,hi,hz0,hz1,hz2⟩:=info_parts Tryz.infoI64;obtain ⟨o,cap,rfl,hm,hc,hroom⟩:=h;have hl : (xs.map (Value.int .i64)).length=xs.length:=by simp
  rw [hl] at hm ⊢;obtain ⟨M,hM,hmk,hown⟩:=zfr xs.length hn;have own0:=hown w w.heap.size (Nat.le_refl _);have d0 : Below w.heap.size w (w.alloc (.cells M 2)):=za3 (Below.refl _ _)
  have HC : Hid (∀ j u,(xs.map (Value.int .i64))[j]? = some u->∃ g off,o=some ⟨g,off,none⟩/\(w.alloc (.cells M 2)).cell? ⟨g,off+j,none⟩=some u):=fun j u hj=>by
    obtain ⟨g,off,e,hg,hx⟩:=hc j u hj;exact ⟨g,off,e,(d0.cell (p:=⟨g,off+j,none⟩) hg).trans hx⟩
  obtain ⟨w',hrun,hown2,hu⟩:=zo4 (P:=Tryz.prog) (w.alloc (.cells M 2)) 25 3 2 Tryz.underlying25 (by rw [hi];simp [hz1]) w.heap.size w.heap.size xs.length xs.length _ (xs.map (Value.int .i64)) own0 o cap hl HC.out (fun u hu=>by simp at hu;obtain ⟨a,_,rfl⟩:=hu;rfl);have hb : Below w.heap.size w w':=d0.trans (hu.toBelow (by simp) (Nat.le_refl _));have HO : Hid _:=hown2;clear own0 d0 HC hu hc hl hown hM hown2;have hm8 : xs.length<=9223372036854775807:=by omega
  go_enter Tryz.func195,Tryz.ntmps195
  go_wp2_with fail
  go_ret;exact ⟨_,rfl,HO.out,by simp,hb⟩
theorem ztr (xs : List Int) (k : Nat) (x : Int) (h : k < xs.length) : (xs.take k).map (Value.int .i64) ++ [Value.int .i64 x] ++ (xs.drop (k+1)).map (Value.int .i64)=(xs.set k x).map (Value.int .i64):=by
  rw [List.set_eq_take_append_cons_drop,if_pos h];simp
theorem zh1 (v : Value) (xs : List Int) (k : Nat) (x : Int) (w : World) (hk : k < xs.length) (hn : xs.length<=1048576) (h : Reads w.heap.size w v (xs.map (Value.int .i64))) :
    Calls Tryz.prog 278 #[v,.int .i64 k,.int .i64 x] w fun e w'=>∃ v' : Value,e = .returned v'/\w'.ownsRow w.heap.size 2 1 v' (xs.set k x).length ((xs.set k x).map (Value.int .i64))/\v' ≠ .slice none 0 0/\Below w.heap.size w w':=by
  obtain ⟨i0,hi,hz0,hz1,hz2⟩:=info_parts Tryz.infoI64;obtain ⟨o,cap,rfl,hm,hc,hroom⟩:=h;have hl : (xs.map (Value.int .i64)).length=xs.length:=by simp
  rw [hl] at hm ⊢
  have hc0 : ∃ g off,o=some ⟨g,off,none⟩/\g < w.heap.size:=by
    obtain ⟨g,off,e,hg,_⟩:=hc k _ (getD_some xs k hk);exact ⟨g,off,e,hg⟩
  obtain ⟨g,off,rfl,hg⟩:=hc0
  have hcell : ∀ j u,(xs.map (Value.int .i64))[j]? = some u->w.cell? ⟨g,off+j,none⟩=some u:=fun j u hj=>by
    obtain ⟨g',off',e,_,hx⟩:=hc j u hj;cases e;exact hx
  rw [hl] at hroom;clear hc;have j0 : (0 : Int)<=(k : Int):=by omega
  have j1 : (k : Int) < (xs.length : Int):=by omega
  have j2 : (k : Int)+1<=(xs.length : Int):=by omega
  have j3 : (k : Int)<=(cap : Int):=by omega
  have j4 : k<=cap:=by omega
  obtain ⟨A,hA⟩ : ∃ A,A=(xs.take k).map (Value.int .i64):=⟨_,rfl⟩
  obtain ⟨D,hD⟩ : ∃ D,D=(xs.drop (k+1)).map (Value.int .i64):=⟨_,rfl⟩
  have HLEN : Hid (A.length=k * 1):=by rw [Hid,hA];simp;omega
  have HLEN2 : Hid (D.length=(xs.length - (k+1)) * 1):=by rw [Hid,hD];simp
  have HI : Hid (∀ u ∈ D,u.oneCell'=true):=fun u hu=>by rw [hD,List.mem_map] at hu;obtain ⟨a,_,rfl⟩:=hu;rfl
  have HWL : Hid (A ++ [Value.int .i64 x] ++ D=(xs.set k x).map (Value.int .i64)):=by rw [Hid,hA,hD];exact ztr xs k x hk
  have hA1 : ∀ j u,A[j]? = some u->w.cell? ⟨g,off+j,none⟩=some u:=fun j u hj=>by
    refine hcell j u ?_;rw [hA,List.map_take,List.getElem?_take] at hj
    split at hj
    · exact hj
    · cases hj
  have hD1 : ∀ j u,D[j]? = some u->w.cell? ⟨g,off+(k+1)+j,none⟩=some u:=fun j u hj=>by
    rw [Nat.add_assoc];refine hcell _ u ?_
    rwa [hD,List.map_drop,List.getElem?_drop] at hj
  have d0 : Below w.heap.size w (w.alloc (.cells #[.int .i64 x] 2)):=za3 (Below.refl _ _);have HOLD : Hid (∀ j u,A[j]? = some u->(w.alloc (.cells #[.int .i64 x] 2)).cell? ((⟨g,off,none⟩ : Addr).add j)=some u):=zn3 fun j u hj=>(d0.cell (p:=⟨g,off+j,none⟩) hg).trans (hA1 j u hj)
  have HNEW : Hid (∀ j u,[Value.int .i64 x][j]? = some u->(w.alloc (.cells #[.int .i64 x] 2)).cell? ((⟨w.heap.size,0,none⟩ : Addr).add j)=some u):=zkj _ _ _;have HM1 : Hid (k+1<=maxLen):=by unfold maxLen at hm;rw [Hid];unfold maxLen;omega
  have HB1 : Hid ((k+1) * 8<=140737488355328):=by rw [Hid];omega
  have HG : Hid (k < k+1):=Nat.lt_succ_self k;have HBS : Hid (w.heap.size<=(w.alloc (.cells #[.int .i64 x] 2)).heap.size):=by rw [Hid];simp
  have HD1 : Hid _:=hD1;clear hA hD hA1 hD1 hcell
  go_enter Tryz.func278,Tryz.ntmps278
  go_wp2_with (at_builtin;refine zhu rfl _ _ 25 rfl w.heap.size 2 i0 (.int .i64 0) 1 8 Tryz.underlying25 hi hz0 hz1 hz2 rfl ⟨g,off,none⟩ k k A rfl HLEN.out HOLD.out ⟨w.heap.size,0,none⟩ 1 1 [.int .i64 x] rfl rfl HNEW.out HG.out HM1.out HB1.out HBS.out ?_)
  intro v5 w5 own5 grow5 nn5;have OWN5 : Hid (w5.ownsRow w.heap.size 2 1 v5 (k+1) (A ++ [Value.int .i64 x])):=own5;have d5 : Below w.heap.size w w5:=d0.grown grow5 (by simp) (fun q hq=>by cases hq);have NN5 : Hid (v5 ≠ .slice none 0 0):=nn5;obtain ⟨o5,c5,rfl⟩:=za4 own5;clear own5 grow5 nn5 HOLD HNEW HLEN HM1 HB1 HG HBS d0;have HM2 : Hid (k+1+(xs.length - (k+1))<=maxLen):=by unfold maxLen at hm;rw [Hid];unfold maxLen;omega
  have HB2 : Hid ((k+1+(xs.length - (k+1))) * 8<=140737488355328):=by rw [Hid];omega
  have HSRC : Hid (∀ (ad : Option Addr),(k+1 < xs.length->ad=some ⟨g,off+(k+1),none⟩)->∀ j u,D[j]? = some u->∃ g off,ad=some ⟨g,off,none⟩/\w5.cell? ⟨g,off+j,none⟩=some u):=fun ad had j u hj=>by
    have hj':=(List.getElem?_eq_some_iff.1 hj).1;have hDl:=HLEN2.out;exact ⟨g,off+(k+1),had (by omega),(d5.cell (p:=⟨g,off+(k+1)+j,none⟩) hg).trans (HD1.out j u hj)⟩
  have HFIN : Hid (∀ (v6 : Value) (w6 : World),w6.ownsRow w.heap.size 2 1 v6 (k+1+(xs.length - (k+1))) (A ++ [Value.int .i64 x] ++ D)->w6.ownsRow w.heap.size 2 1 v6 (xs.set k x).length ((xs.set k x).map (Value.int .i64))):=fun v6 w6 h=>by
    rw [HWL.out] at h;rw [List.length_set]
    rwa [show k+1+(xs.length - (k+1))=xs.length by omega] at h
  have HBS : Hid (w.heap.size<=w5.heap.size):=d5.size;by_cases hcap : k+1=cap
  · subst hcap
    have hx1 : xs.length<=k+1:=by omega
    have HE0 : Hid (xs.length - (k+1)=0):=by rw [Hid];omega
    have HLEN3 : Hid (D.length=0 * 1):=by rw [Hid,HLEN2.out,HE0.out]
    have HSRC3 : Hid (∀ j u,D[j]? = some u->∃ g' off',some (⟨g,off,none⟩ : Addr)=some ⟨g',off',none⟩/\w5.cell? ⟨g',off'+j,none⟩=some u):=HSRC.out _ (fun h=>by omega);have HM3 : Hid (k+1+0<=maxLen):=by have:=HM2.out;rwa [HE0.out] at this
    have HB3 : Hid ((k+1+0) * 8<=140737488355328):=by have:=HB2.out;rwa [HE0.out] at this
    have HFIN3 : Hid (∀ (v6 : Value) (w6 : World),w6.ownsRow w.heap.size 2 1 v6 (k+1+0) (A ++ [Value.int .i64 x] ++ D)->w6.ownsRow w.heap.size 2 1 v6 (xs.set k x).length ((xs.set k x).map (Value.int .i64))):=by have:=HFIN.out;rwa [HE0.out] at this
    clear HSRC HLEN2 HM2 HB2 HFIN
    go_wp2_with (at_builtin;refine zb5 rfl _ _ 25 rfl w.heap.size 2 i0 (.int .i64 0) 1 8 Tryz.underlying25 hi hz0 hz1 hz2 rfl (by decide) (.slice o5 (k+1) c5) (k+1) (A ++ [Value.int .i64 x]) rfl OWN5.out (some ⟨g,off,none⟩) 0 0 D rfl HLEN3.out HSRC3.out HI.out HM3.out HB3.out HBS.out ?_)
    intro v6 w6 own6 grow6 nil6;have HO : Hid _:=HFIN3.out v6 w6 (by simpa using own6);have d6 : Below w.heap.size w w6:=d5.grown grow6 HBS.out (fun q hq=>(OWN5.out.lt q hq).1);have NN6 : Hid (v6 ≠ .slice none 0 0):=nil6;clear own6 grow6 nil6
    go_wp2_with fail
    go_ret;exact ⟨v6,rfl,HO.out,NN6.out,d6⟩
  · have hc1 : k+1 < cap:=by omega
    have hc2 : ¬ k+1=cap:=hcap;have HSRC3 : Hid (∀ j u,D[j]? = some u->∃ g' off',some (⟨g,off+(k+1),none⟩ : Addr)=some ⟨g',off',none⟩/\w5.cell? ⟨g',off'+j,none⟩=some u):=HSRC.out _ (fun _=>rfl);clear HSRC
    go_wp2_with (at_builtin;refine zb5 rfl _ _ 25 rfl w.heap.size 2 i0 (.int .i64 0) 1 8 Tryz.underlying25 hi hz0 hz1 hz2 rfl (by decide) (.slice o5 (k+1) c5) (k+1) (A ++ [Value.int .i64 x]) rfl OWN5.out (some ⟨g,off+(k+1),none⟩) (xs.length - (k+1)) (cap - (k+1)) D rfl HLEN2.out HSRC3.out HI.out HM2.out HB2.out HBS.out ?_)
    intro v6 w6 own6 grow6 nil6;have HO : Hid _:=HFIN.out v6 w6 (by simpa using own6);have d6 : Below w.heap.size w w6:=d5.grown grow6 HBS.out (fun q hq=>(OWN5.out.lt q hq).1);have NN6 : Hid (v6 ≠ .slice none 0 0):=nil6;clear own6 grow6 nil6
    go_wp2_with fail
    go_ret;exact ⟨v6,rfl,HO.out,NN6.out,d6⟩
end Go.Proofs.YtfkkapdofjhgpaaGreatDoor
