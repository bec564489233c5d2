import Derived.Deep.RegionHeld3
import Derived.Test.YtfkkapdofjhgpaaGreatDoorM08
import Derived.Test.YtfkkapdofjhgpaaGreatDoorM27
import Derived.Test.YtfkkapdofjhgpaaGreatDoorM29
import Derived.Test.YtfkkapdofjhgpaaGreatDoorM36
set_option maxHeartbeats 12800000
namespace Go.Proofs.YtfkkapdofjhgpaaGreatDoor
open Go.RowKit
set_option linter.unusedVariables false
def zeros24 : Array Value:=#[.int .i64 0,.int .i64 0,.int .i64 0,.int .i64 0,.int .i64 0,.int .i64 0,.int .i64 0,.int .i64 0,.int .i64 0,.int .i64 0,.int .i64 0,.int .i64 0,.int .i64 0,.int .i64 0,.int .i64 0,.int .i64 0,.int .i64 0,.int .i64 0,.int .i64 0,.int .i64 0,.int .i64 0,.int .i64 0,.int .i64 0,.int .i64 0]
theorem zwi : (Tryz.prog.info? 276).map (·.size)=some 24:=by kernel_rfl
theorem zya (c : Array Value) (k : Nat) (y : Int) (hk : k < 24) (hck : c[k]? = some (.int .i64 y)) (w : World) : (Instr.index 276 (.agg c) (.int .i64 (k : Int))).run Tryz.prog w = .ok (.int .i64 y) w:=by
  obtain ⟨hlt,hv⟩:=Array.getElem?_eq_some_iff.1 hck;simp [Instr.index,run_underlying Tryz.underlying276,hv,go_sem,hk,hlt]
theorem zuk {w : World} {g base n : Nat} {e : TypeId} {cur : Array Value} {xs : List Value} (h : w.heap[g]? = some (.cells cur e (0,0))) (hb : base<=g) (hm : n<=maxLen) (hs : cur.size=n) (hx : cur.toList=xs) : w.ownsRow base e 1 (.slice (some ⟨g,0,none⟩) n n) n xs:=by
  refine ⟨?_,.inr ⟨g,n,cur,rfl,hb,h,Nat.le_refl _,hm,by rw [hs,Nat.mul_one],?_⟩⟩
  · rw [<- hx,Array.length_toList,hs,Nat.mul_one]
  · rw [<- hx,List.take_of_length_le]
    rw [Array.length_toList,hs,Nat.mul_one];exact Nat.le_refl _
theorem zul {w : World} {base g : Nat} {f : Nat->Int} (h : w.ownsRow base 276 1 (.slice (some ⟨g,0,none⟩) 24 24) 24 ((zcu f).map (Value.int .i64))) (m : Nat) (hm : m < 24) :
    w.cell? ⟨g,m,none⟩=some (.int .i64 (f m))/\w.frozen? ⟨g,m,none⟩=false/\(w.setCell ⟨g,m,none⟩ (.int .i64 (f m+1))).ownsRow base 276 1 (.slice (some ⟨g,0,none⟩) 24 24) 24 ((zcu (fun k=>if m=k then f m+1 else f k)).map (Value.int .i64)):=by
  refine ⟨?_,h.frozenAt m,?_⟩
  · rw [h.cellAt m (by omega),getD_some _ m (by rw [zel];exact hm),znd f m hm]
  · have:=(h.stored m (.int .i64 (f m+1))).1
    rwa [<- List.map_set,zt1 f m hm] at this
set_option maxRecDepth 100000 in
theorem zji (vb : Value) (bks : List Bk) (w : World) (hf : ∀ b ∈ bks,zb9 b.rs) (hr : rowB (bks.map Bk.pb)=true) (rb : ReadsB w.heap.size w vb bks) :
    Calls Tryz.prog 252 #[vb] w fun e w'=>∃ c : Array Value,e = .returned (.agg c)/\c.toList=(zcu (fun k=>zav (bks.map Bk.pb) (k : Int))).map (Value.int .i64)/\Below w.heap.size w w':=by
  have HF : Hid _:=hf;obtain ⟨ob,cpb,f3,mb,cb,-⟩:=rb.row;subst f3;unfold maxLen at mb;have CB : Hid _:=zbj cb;have RM : Hid _:=rb.maps;clear hf rb cb
  obtain ⟨bs,hbs⟩ : ∃ bs,bks.map Bk.pb=bs:=⟨_,rfl⟩
  have hbl : bs.length=bks.length:=by rw [<- hbs,List.length_map]
  have HAT : Hid (∀ (i : Nat) (h1 : i < bks.length) (h2 : i < bs.length),bs[i]=bks[i].pb):=fun i h1 h2=>by subst hbs;simp
  rw [hbs] at hr;rw [hbs];have HBL : Hid (bs.length=bks.length):=hbl;obtain ⟨hfew,hoks⟩:=zui hr;have HOKS : Hid _:=hoks;have hfew2 : bks.length<=6:=by omega
  clear hbs hbl hr hoks hfew;obtain ⟨WA,hWA,kA0,kB0,d0,z0⟩:=zc7 w #[.int .i64 0,.int .i64 0,.int .i64 0,.int .i64 0,.int .i64 0,.int .i64 0,.int .i64 0,.int .i64 0,.int .i64 0,.int .i64 0,.int .i64 0,.int .i64 0,.int .i64 0,.int .i64 0,.int .i64 0,.int .i64 0,.int .i64 0,.int .i64 0,.int .i64 0,.int .i64 0,.int .i64 0,.int .i64 0,.int .i64 0,.int .i64 0] #[.int .i64 0,.int .i64 0,.int .i64 0,.int .i64 0,.int .i64 0,.int .i64 0,.int .i64 0,.int .i64 0,.int .i64 0,.int .i64 0,.int .i64 0,.int .i64 0,.int .i64 0,.int .i64 0,.int .i64 0,.int .i64 0,.int .i64 0,.int .i64 0,.int .i64 0,.int .i64 0,.int .i64 0,.int .i64 0,.int .i64 0,.int .i64 0] 276 276;have HWA : Hid (WA = _):=hWA;have HKB : Hid (((w.alloc (.cells #[.int .i64 0,.int .i64 0,.int .i64 0,.int .i64 0,.int .i64 0,.int .i64 0,.int .i64 0,.int .i64 0,.int .i64 0,.int .i64 0,.int .i64 0,.int .i64 0,.int .i64 0,.int .i64 0,.int .i64 0,.int .i64 0,.int .i64 0,.int .i64 0,.int .i64 0,.int .i64 0,.int .i64 0,.int .i64 0,.int .i64 0,.int .i64 0] 276)).alloc (.cells #[.int .i64 0,.int .i64 0,.int .i64 0,.int .i64 0,.int .i64 0,.int .i64 0,.int .i64 0,.int .i64 0,.int .i64 0,.int .i64 0,.int .i64 0,.int .i64 0,.int .i64 0,.int .i64 0,.int .i64 0,.int .i64 0,.int .i64 0,.int .i64 0,.int .i64 0,.int .i64 0,.int .i64 0,.int .i64 0,.int .i64 0,.int .i64 0] 276)).heap[w.heap.size+1]? = some (.cells #[.int .i64 0,.int .i64 0,.int .i64 0,.int .i64 0,.int .i64 0,.int .i64 0,.int .i64 0,.int .i64 0,.int .i64 0,.int .i64 0,.int .i64 0,.int .i64 0,.int .i64 0,.int .i64 0,.int .i64 0,.int .i64 0,.int .i64 0,.int .i64 0,.int .i64 0,.int .i64 0,.int .i64 0,.int .i64 0,.int .i64 0,.int .i64 0] 276 (0,0))):=by rw [Hid,<- hWA];exact kB0
  have HI0 : Hid ((Tryz.prog.info? 276).map (·.size)=some (#[.int .i64 0,.int .i64 0,.int .i64 0,.int .i64 0,.int .i64 0,.int .i64 0,.int .i64 0,.int .i64 0,.int .i64 0,.int .i64 0,.int .i64 0,.int .i64 0,.int .i64 0,.int .i64 0,.int .i64 0,.int .i64 0,.int .i64 0,.int .i64 0,.int .i64 0,.int .i64 0,.int .i64 0,.int .i64 0,.int .i64 0,.int .i64 0] : Array Value).size):=zwi;have HO0 : Hid ((#[.int .i64 0,.int .i64 0,.int .i64 0,.int .i64 0,.int .i64 0,.int .i64 0,.int .i64 0,.int .i64 0,.int .i64 0,.int .i64 0,.int .i64 0,.int .i64 0,.int .i64 0,.int .i64 0,.int .i64 0,.int .i64 0,.int .i64 0,.int .i64 0,.int .i64 0,.int .i64 0,.int .i64 0,.int .i64 0,.int .i64 0,.int .i64 0] : Array Value).all (·.oneCell')=true):=zep (List.replicate 24 0) _ rfl
  have own0 : (WA.setRow (w.heap.size+1) #[.int .i64 0,.int .i64 0,.int .i64 0,.int .i64 0,.int .i64 0,.int .i64 0,.int .i64 0,.int .i64 0,.int .i64 0,.int .i64 0,.int .i64 0,.int .i64 0,.int .i64 0,.int .i64 0,.int .i64 0,.int .i64 0,.int .i64 0,.int .i64 0,.int .i64 0,.int .i64 0,.int .i64 0,.int .i64 0,.int .i64 0,.int .i64 0]).ownsRow (w.heap.size+1) 276 1 (.slice (some ⟨w.heap.size+1,0,none⟩) 24 24) 24 ((zcu (fun k=>zav (bs.take 0) (k : Int))).map (Value.int .i64)):=by
    have e0 : zcu (fun k=>zav (bs.take 0) (k : Int))=List.replicate 24 0:=by rw [zr6];exact zfa _ _ (fun k hk=>rfl)
    rw [e0];exact zuk (zd0 kB0) (Nat.le_refl _) (by unfold maxLen;omega) rfl rfl
  have k0 : (WA.setRow (w.heap.size+1) #[.int .i64 0,.int .i64 0,.int .i64 0,.int .i64 0,.int .i64 0,.int .i64 0,.int .i64 0,.int .i64 0,.int .i64 0,.int .i64 0,.int .i64 0,.int .i64 0,.int .i64 0,.int .i64 0,.int .i64 0,.int .i64 0,.int .i64 0,.int .i64 0,.int .i64 0,.int .i64 0,.int .i64 0,.int .i64 0,.int .i64 0,.int .i64 0]).heap[w.heap.size]? = some (.cells zeros24 276 (0,0)):=((zdq (B:=w.heap.size+1) (Nat.le_refl _)).block _ (by omega)).trans kA0;replace d0 : Below w.heap.size w (WA.setRow (w.heap.size+1) #[.int .i64 0,.int .i64 0,.int .i64 0,.int .i64 0,.int .i64 0,.int .i64 0,.int .i64 0,.int .i64 0,.int .i64 0,.int .i64 0,.int .i64 0,.int .i64 0,.int .i64 0,.int .i64 0,.int .i64 0,.int .i64 0,.int .i64 0,.int .i64 0,.int .i64 0,.int .i64 0,.int .i64 0,.int .i64 0,.int .i64 0,.int .i64 0]):=d0.trans (zdq (by omega));clear hWA z0 kA0 kB0
  go_enter Tryz.func252,Tryz.ntmps252
  go_wp2_with (with_reducible refine zbt rfl _ _ 276 rfl (w.heap.size+1) rfl #[.int .i64 0,.int .i64 0,.int .i64 0,.int .i64 0,.int .i64 0,.int .i64 0,.int .i64 0,.int .i64 0,.int .i64 0,.int .i64 0,.int .i64 0,.int .i64 0,.int .i64 0,.int .i64 0,.int .i64 0,.int .i64 0,.int .i64 0,.int .i64 0,.int .i64 0,.int .i64 0,.int .i64 0,.int .i64 0,.int .i64 0,.int .i64 0] rfl #[.int .i64 0,.int .i64 0,.int .i64 0,.int .i64 0,.int .i64 0,.int .i64 0,.int .i64 0,.int .i64 0,.int .i64 0,.int .i64 0,.int .i64 0,.int .i64 0,.int .i64 0,.int .i64 0,.int .i64 0,.int .i64 0,.int .i64 0,.int .i64 0,.int .i64 0,.int .i64 0,.int .i64 0,.int .i64 0,.int .i64 0,.int .i64 0] 276 HKB.out HI0.out rfl HO0.out ?_)
  rw [<- HWA.out];clear HWA HKB HI0 HO0;generalize WA.setRow (w.heap.size+1) #[.int .i64 0,.int .i64 0,.int .i64 0,.int .i64 0,.int .i64 0,.int .i64 0,.int .i64 0,.int .i64 0,.int .i64 0,.int .i64 0,.int .i64 0,.int .i64 0,.int .i64 0,.int .i64 0,.int .i64 0,.int .i64 0,.int .i64 0,.int .i64 0,.int .i64 0,.int .i64 0,.int .i64 0,.int .i64 0,.int .i64 0,.int .i64 0]=W0 at *
  go_loopw [11] (fun i wr=>∃ q : Nat,q<=bks.length/\i = .int .i64 q/\wr.ownsRow (w.heap.size+1) 276 1 (.slice (some ⟨w.heap.size+1,0,none⟩) 24 24) 24 ((zcu (fun k=>zav (bs.take q) (k : Int))).map (Value.int .i64))/\wr.heap[w.heap.size]? = some (.cells zeros24 276 (0,0))/\Below w.heap.size w wr) (fun i _=>bks.length - (intOf i).toNat)
  case atStart=>exact ⟨0,Nat.zero_le _,rfl,own0,k0,d0⟩
  case round =>
    clear own0 k0 d0;obtain ⟨q,hq,rfl,own,kA,hb⟩:=hrel;by_cases hlt : q < bks.length
    · obtain ⟨g,off,rfl,hg,a0,a1,a2,a3,a4⟩:=CB.out q hlt
      have hltb : q < bs.length:=by have:=HBL.out;omega
      have rm:=(RM.out bks[q] (List.getElem_mem hlt)).below hb;have hfr:=HF.out bks[q] (List.getElem_mem hlt);have hat:=HAT.out q hlt hltb;have hokq:=HOKS.out q hltb
      obtain ⟨x,hx⟩ : ∃ x,bks[q]=x:=⟨_,rfl⟩
      rw [hx] at a0 a1 a2 a3 a4 rm hat hfr;clear hx;obtain ⟨nm,sz,m,rs,fx,ep⟩:=x;simp only at a0 a1 a2 a3 a4 rm hfr;obtain ⟨o',cap',hm'⟩:=rm.form;subst hm';replace a0:=(hb.cell (p:=⟨g,off+q * 5,none⟩) hg).trans a0;replace a1:=(hb.cell (p:=⟨g,off+q * 5+1,none⟩) hg).trans a1;replace a2:=(hb.cell (p:=⟨g,off+q * 5+2,none⟩) hg).trans a2;replace a3:=(hb.cell (p:=⟨g,off+q * 5+3,none⟩) hg).trans a3;replace a4:=(hb.cell (p:=⟨g,off+q * 5+4,none⟩) hg).trans a4;obtain ⟨WB,hWB,kB,dB,zB⟩:=zb4 wr #[.string nm,.int .i64 sz,.slice o' rs.length cap',.bool fx,.int .i64 ep] 117;have HWB : Hid (WB = _):=hWB;have hbB:=za1 hb dB;have ownB:=za9 own dB;have kAB:=kb0 dB kA;have rmB:=(rm.below (dB.mono hb.size)).mono hbB.size
      have HCNT : Hid (∀ k : Nat,((pagesOf rs).count (k : Int) : Int)=bs[q].cnt (k : Int)):=fun k=>by
        have h:=zp3 bs[q] hokq k;rw [hat] at h ⊢;exact h
      have hmp : mapOk rs=true:=by
        have h:=(zaw hokq).2.2.2.1;rw [hat] at h;exact h
      have HPI : Hid (∀ p ∈ pagesOf rs,0<=p/\p<=23):=fun p hp=>zr8 rs hmp p hp
      have hpf:=zfb rs;have i0 : (0 : Int)<=(q : Int):=by omega
      have i1 : (q : Int) < (bks.length : Int):=by omega
      have b2:=za0 kB 2;clear hWB zB rm own kA hokq hat
      go_wp2_with fail
      rw [<- HWB.out];clear HWB b2;refine (zcv _ rs _ hfr rmB).mono ?_;rintro e w6 ⟨v',rfl,own6,hnn,b6⟩;generalize pagesOf rs=L at *
      obtain ⟨g6,cap6,hv6⟩ : ∃ g6 cap6,v' = .slice (some ⟨g6,0,none⟩) L.length cap6:=by
        rcases own6.2 with ⟨e,_⟩ | ⟨g6,cap6,_,e,_⟩
        · exact absurd e hnn
        · exact ⟨g6,cap6,e⟩
      subst hv6;have hg6:=own6.lt g6 rfl;have ownc:=za9 ownB b6;have kAc:=kb0 b6 kAB;have hlc:=(ownB.lt (w.heap.size+1) rfl).2;have hne6 : ¬ g6=w.heap.size+1:=by omega
      have hb6:=za1 hbB b6;have hcl:=own6.cellAt;have HCL : Hid (∀ j,j < L.length->w6.cell? ⟨g6,j,none⟩=some (.int .i64 (L.getD j 0))):=fun j hj=>(hcl j (by omega)).trans (getD_some L j hj)
      have hgl : g6 < w6.heap.size:=hg6.2;clear hcl own6 hnn b6 ownB kAB rmB hbB dB kB a0 a1 a2 a3 a4
      go_wp2_with fail
      go_loopw [19] (fun i wr2=>∃ j : Nat,j<=L.length/\i = .int .i64 j/\wr2.ownsRow (w.heap.size+1) 276 1 (.slice (some ⟨w.heap.size+1,0,none⟩) 24 24) 24 ((zcu (fun k=>zav (bs.take q) (k : Int)+((L.take j).count (k : Int) : Int))).map (Value.int .i64))/\Upto (w.heap.size+1) w6 wr2) (fun i _=>L.length - (intOf i).toNat)
      case atStart =>
        refine ⟨0,Nat.zero_le _,rfl,?_,Upto.refl _ _⟩;rw [zfa _ (fun k=>zav (bs.take q) (k : Int)) (fun k hk=>by simp)];exact ownc
      case round =>
        clear ownc;obtain ⟨j,hj,rfl,own,u⟩:=hrel;by_cases hlt2 : j < L.length
        · have hpj:=HPI.out (L.getD j 0) (by rw [ze9 L j hlt2];exact List.getElem_mem hlt2)
          have cj:=(u.cell (p:=⟨g6,j,none⟩) hgl hne6).trans (HCL.out j hlt2)
          have HCT : Hid (∀ k : Nat,((L.take (j+1)).count (k : Int) : Int)=((L.take j).count (k : Int) : Int)+(if L.getD j 0=(k : Int) then 1 else 0)):=fun k=>by
            rw [zr7 L j hlt2,ze9 L j hlt2]
          generalize L.getD j 0=p at hpj cj HCT;obtain ⟨m,rfl⟩:=Int.eq_ofNat_of_zero_le hpj.1;obtain ⟨cn,fn,ow⟩:=zul own m (by omega);have hx0 : 0<=zav (bs.take q) (m : Int):=zcx _ _
          have hx1 : zav (bs.take q) (m : Int)<=96:=by
            have h1:=ze5 (bs.take q) (m : Int);have h2 : (bs.take q).length<=q:=by rw [List.length_take];omega
            omega
          have hx2 : (L.take j).count (m : Int)<=16:=by
            have:=List.count_le_length (a:=(m : Int)) (l:=L.take j);rw [List.length_take] at this
            omega
          have e1 : zcu (fun k=>if m=k then zav (bs.take q) (m : Int)+((L.take j).count (m : Int) : Int)+1 else zav (bs.take q) (k : Int)+((L.take j).count (k : Int) : Int))=zcu (fun k=>zav (bs.take q) (k : Int)+((L.take (j+1)).count (k : Int) : Int)):=zfa _ _ (fun k hk=>by
            rw [HCT.out k];by_cases e : m=k
            · subst e;rw [if_pos rfl,if_pos rfl];omega
            · rw [if_neg e,if_neg (by omega)];omega)
          rw [e1] at ow;have HO : Hid _:=And.intro ow (u.setCell ⟨w.heap.size+1,m,none⟩ (.inl rfl) (.int .i64 (zav (bs.take q) (m : Int)+((L.take j).count (m : Int) : Int)+1)));have hxx : 0<=zav (bs.take q) (m : Int)+((L.take j).count (m : Int) : Int)/\zav (bs.take q) (m : Int)+((L.take j).count (m : Int) : Int)<=1000:=by omega
          generalize zav (bs.take q) (m : Int)+((L.take j).count (m : Int) : Int)=x at cn HO hxx;have t0 : (0 : Int)<=(j : Int):=by omega
          have t1 : (j : Int) < (L.length : Int):=by omega
          have t2 : (0 : Int)<=(m : Int):=by omega
          have t3 : (m : Int) < 24:=by omega
          have t4 : m < 24:=by omega
          have hwx : IntKind.i64.wrap (x+1)=x+1:=by rw [IntKind.wrap_i64];omega
          clear ow e1 own HCT hx0 hx1 hx2
          go_wp2_with fail
          go_roundw
          case rel=>exact ⟨j+1,by omega,by go_num,HO.out.1,HO.out.2⟩
          case measure=>simp [intOf];omega
        · have hjl : j=L.length:=by omega
          have e1 : zcu (fun k=>zav (bs.take q) (k : Int)+((L.take j).count (k : Int) : Int))=zcu (fun k=>zav (bs.take (q+1)) (k : Int)):=zfa _ _ (fun k hk=>by
            rw [hjl,List.take_length,HCNT.out k,zp2 bs q hltb])
          rw [e1] at own;have kAd:=(u.block _ (za2 kAc) (by omega)).trans kAc;have HO : Hid _:=And.intro own (And.intro kAd (hb6.trans (u.toBelow hb6.size (by omega))));clear own e1 kAd
          go_wp2_with fail
          go_roundw
          case rel=>exact ⟨q+1,by omega,by go_num,HO.out.1,HO.out.2.1,HO.out.2.2⟩
          case measure=>simp [intOf];omega
    · have htk : bs.take q=bs:=List.take_of_length_le (by have:=HBL.out;omega)
      rw [htk] at own;obtain ⟨cur,hcur,hcl⟩:=zn4 own;have hcs : cur.size=24:=by rw [<- Array.length_toList,hcl,List.length_map];exact zel _
      have HCL : Hid _:=hcl;have H1 : Hid (cur.all (·.oneCell')=true):=zep _ cur hcl;have HI : Hid ((Tryz.prog.info? 276).map (·.size)=some cur.size):=by rw [hcs];exact zwi
      have HZ : Hid (zeros24.size=cur.size):=by rw [hcs];rfl
      have HCUR : Hid _:=hcur;have HKA : Hid _:=kA;have hbS : Below w.heap.size w (wr.setRow w.heap.size cur):=hb.trans (zdq (Nat.le_refl _));have hrow:=zd0 (cs:=cur) kA;have HLD : Hid _:=run_loadVar_row (P:=Tryz.prog) _ w.heap.size 276 276 cur (0,0) _ hrow Tryz.underlying276 rfl HI.out;have hql : ¬ (q : Int) < (bks.length : Int):=by omega
      clear own htk hcur hcl kA hcs hrow
      go_wp2_with (first | (with_reducible refine zgf rfl _ 276 rfl (w.heap.size+1) rfl cur 276 (0,0) HCUR.out _ Tryz.underlying276 rfl HI.out ?_) | (with_reducible refine zbt rfl _ _ 276 rfl w.heap.size rfl cur rfl zeros24 276 HKA.out HI.out HZ.out H1.out ?_))
      refine bodyPost_ret (v:=.agg cur) ?_ rfl ⟨cur,rfl,HCL.out,hbS⟩;simp [results,Tryz.results252,asAddr,HLD.out]
theorem zqh {cs : List Int} {bs : List Pb} (k : Nat) (hk : k < 24) (h : zas cs (k : Int) ≠ zav bs (k : Int)) : countsOk cs bs=false:=by
  rw [countsOk,List.all_eq_false];refine ⟨k,List.mem_range.2 hk,?_⟩
  split
  · rename_i hl
    rw [zeu cs k hl] at h;rw [decide_eq_true_eq];exact fun e=>h e.symm
  · rename_i hl
    unfold zas at h;rw [if_neg (by omega)] at h;rw [decide_eq_true_eq];exact fun e=>h e.symm
theorem zok {cs : List Int} {bs : List Pb} (h : ∀ k : Nat,k < 24->zas cs (k : Int)=zav bs (k : Int)) : countsOk cs bs=true:=by
  rw [countsOk,List.all_eq_true];intro k hk;have hk:=List.mem_range.1 hk;have:=h k hk
  split
  · rename_i hl
    rw [zeu cs k hl] at this;exact decide_eq_true this.symm
  · rename_i hl
    unfold zas at this;rw [if_neg (by omega)] at this;exact decide_eq_true this.symm
set_option maxRecDepth 100000 in
theorem zjj (v1 v2 vb : Value) (cs ps : List Int) (bks : List Bk) (w : World) (hf : ∀ b ∈ bks,zb9 b.rs) (hr : rowB (bks.map Bk.pb)=true) (r1 : Reads w.heap.size w v1 (cs.map (Value.int .i64))) (rb : ReadsB w.heap.size w vb bks) (fm2 : ∃ o n c,v2 = .slice o n c) :
    Calls Tryz.prog 226 #[.agg #[v1,v2],vb] w fun e w'=>e = .returned (.bool (countsOk cs (bks.map Bk.pb)))/\Below w.heap.size w w':=by
  obtain ⟨o2,n2,c2,hv2⟩:=fm2;subst hv2;obtain ⟨o1,cp1,f1,-,-,-⟩:=id r1;obtain ⟨ob,cpb,f3,-,-,-⟩:=id rb.row;simp only [List.length_map] at f1;subst f1 f3;obtain ⟨W0,hW0,k0,d0,z0⟩:=zb4 w #[.slice o1 cs.length cp1,.slice o2 n2 c2] 27;have HW0 : Hid (W0 = _):=hW0;have s1:=(r1.below d0).mono d0.size;have sb:=(rb.below d0).mono d0.size;clear hW0 z0 r1 rb
  go_enter Tryz.func226,Tryz.ntmps226
  go_wp2_with fail
  rw [<- HW0.out];clear HW0;refine (zji _ bks _ hf hr sb).mono ?_;rintro e w1 ⟨c,rfl,hcl,b1⟩;replace k0:=kb0 b1 k0;replace d0:=za1 d0 b1;replace s1:=(s1.below b1).mono b1.size;clear b1 sb
  obtain ⟨bs,hbs⟩ : ∃ bs,bks.map Bk.pb=bs:=⟨_,rfl⟩
  rw [hbs] at hcl;have HBS : Hid _:=hbs
  have HIX : Hid (∀ j : Nat,j < 24->∀ w : World,(Instr.index 276 (.agg c) (.int .i64 (j : Int))).run Tryz.prog w = .ok (.int .i64 (zav bs (j : Int))) w):=fun j hj w=>by
    have h:=zya c j _ hj (zrz (zcu (fun k=>zav bs (k : Int))) c hcl j (by rw [zel];exact hj)) w
    rwa [znd _ j hj] at h
  have l0:=za2 k0;clear hcl hbs
  go_wp2_with fail
  go_loopw [9] (fun i wr=>∃ k : Nat,k<=24/\i = .int .i64 k/\(∀ j : Nat,j < k->zas cs (j : Int)=zav bs (j : Int))/\Below w1.heap.size w1 wr) (fun i _=>24 - (intOf i).toNat)
  case atStart=>exact ⟨0,Nat.zero_le _,rfl,fun j h=>by omega,Below.refl _ _⟩
  case round =>
    obtain ⟨k,hk,rfl,hall,hb⟩:=hrel;have HA : Hid _:=hall;clear hall;have kk:=(hb.block _ l0).trans k0;have dk:=za1 d0 hb;by_cases hlt : k < 24
    · have hix:=HIX.out k hlt
      obtain ⟨p0,p1⟩:=cq2 kk;have t0 : (0 : Int)<=(k : Int):=by omega
      have t1 : (k : Int) < 24:=by omega
      have sk:=(s1.below hb).mono hb.size;have HN : Hid (zas cs (k : Int) ≠ zav bs (k : Int)->countsOk cs bs=false):=fun h=>zqh k hlt h
      have HY : Hid (zas cs (k : Int)=zav bs (k : Int)->∀ j : Nat,j < k+1->zas cs (j : Int)=zav bs (j : Int)):=fun h j hj=>by
        rcases Nat.lt_or_ge j k with z | z
        · exact HA.out j z
        · obtain rfl : j=k:=by omega
          exact h
      generalize zav bs (k : Int)=y at *
      go_wp2_with fail
      clear p0 p1;refine (zfe _ _ cs (k : Int) _ sk).mono ?_;rintro e w3 ⟨rfl,b3⟩;generalize zas cs (k : Int)=x at *;replace hb:=za1 hb b3;replace dk:=za1 dk b3;clear b3 sk;by_cases hxy : x=y
      · subst hxy
        have HY2 : Hid _:=HY.out rfl;clear HN HY HA
        go_wp2_with fail
        go_roundw
        case rel=>exact ⟨k+1,by omega,by go_num,HY2.out,hb⟩
        case measure=>simp [intOf];omega
      · have HV : Hid _:=HN.out hxy
        have hne : (x != y)=true:=by rw [bne_iff_ne];exact hxy
        clear HN HY HA
        go_wp2_with fail
        go_ret;exact ⟨za6 (by rw [HBS.out,HV.out]),dk⟩
    · have HV : Hid (countsOk cs bs=true):=zok (fun j hj=>HA.out j (by omega))
      have hql : ¬ (k : Int) < 24:=by omega
      clear HA
      go_wp2_with fail
      go_ret;exact ⟨za6 (by rw [HBS.out,HV.out]),dk⟩
set_option maxRecDepth 100000 in
theorem zkg (v1 v2 vb : Value) (cs ps : List Int) (bks : List Bk) (w : World) (hn : ∀ b ∈ bks,b.nm.size<=maxLen) (hf : ∀ b ∈ bks,zb9 b.rs) (r1 : Reads w.heap.size w v1 (cs.map (Value.int .i64))) (r2 : Reads w.heap.size w v2 (ps.map (Value.int .i64))) (rb : ReadsB w.heap.size w vb bks) :
    Calls Tryz.prog 206 #[.agg #[v1,v2,vb]] w fun e w'=>e = .returned (.bool (zcj ⟨cs,ps,bks.map Bk.pb⟩))/\Below w.heap.size w w':=by
  obtain ⟨o1,cp1,f1,-,-,-⟩:=id r1;obtain ⟨o2,cp2,f2,-,-,-⟩:=id r2;obtain ⟨ob,cpb,f3,-,-,-⟩:=id rb.row;simp only [List.length_map] at f1 f2;subst f1 f2 f3;obtain ⟨W0,hW0,k0,d0,z0⟩:=zb4 w #[.slice o1 cs.length cp1,.slice o2 ps.length cp2,.slice ob bks.length cpb] 30;have HW0 : Hid (W0 = _):=hW0;have s1:=(r1.below d0).mono d0.size;have s2:=(r2.below d0).mono d0.size;have sb:=(rb.below d0).mono d0.size;have HSP : Hid _:=zmx ⟨cs,ps,bks.map Bk.pb⟩;simp only at HSP
  obtain ⟨bs,hbs⟩ : ∃ bs,bks.map Bk.pb=bs:=⟨_,rfl⟩
  have HB : Hid _:=hbs;rw [hbs] at HSP;clear hW0 z0 r1 r2 rb hbs
  go_enter Tryz.func206,Tryz.ntmps206
  go_wp2_with fail
  rw [<- HW0.out];clear HW0;refine (zdz _ _ cs ps _ s1 s2).mono ?_;rintro e w1 ⟨rfl,b1⟩;replace k0:=kb0 b1 k0;replace d0:=za1 d0 b1;replace s1:=(s1.below b1).mono b1.size;replace sb:=(sb.below b1).mono b1.size;clear b1 s2;cases hp : poolOk cs ps
  · have HV : Hid (zcj ⟨cs,ps,bs⟩=false):=by rw [Hid,HSP.out,hp];rfl
    clear hp HSP k0
    go_wp2_with fail
    go_ret;exact ⟨za6 (by rw [HB.out,HV.out]),d0⟩
  have HP : Hid _:=hp;have q2:=za0 k0 2;clear hp
  go_wp2_with fail
  clear q2;refine (zuj _ bks _ hn hf sb).mono ?_;rw [HB.out];rintro e w2 ⟨rfl,b2⟩;replace k0:=kb0 b2 k0;replace d0:=za1 d0 b2;replace s1:=(s1.below b2).mono b2.size;replace sb:=(sb.below b2).mono b2.size;clear b2;cases hr : rowB bs
  · have HV : Hid (zcj ⟨cs,ps,bs⟩=false):=by rw [Hid,HSP.out,HP.out,hr];rfl
    clear hr HSP k0
    go_wp2_with fail
    go_ret;exact ⟨za6 (by rw [HB.out,HV.out]),d0⟩
  have HV : Hid (zcj ⟨cs,ps,bs⟩=countsOk cs bs):=by rw [Hid,HSP.out,HP.out,hr];simp
  have HRB : Hid (rowB (bks.map Bk.pb)=true):=by rw [Hid,HB.out];exact hr
  obtain ⟨q0,q1,q2⟩:=cq3 k0;clear hr HSP
  go_wp2_with fail
  clear q0 q1 q2;refine (zjj _ _ _ cs ps bks _ hf HRB.out s1 sb ⟨_,_,_,rfl⟩).mono ?_;rw [HB.out];rintro e w3 ⟨rfl,b3⟩;replace d0:=za1 d0 b3;generalize countsOk cs bs=cv at *;clear b3 k0
  go_wp2_with fail
  go_ret;exact ⟨za6 (by rw [HB.out,HV.out]),d0⟩
end Go.Proofs.YtfkkapdofjhgpaaGreatDoor
namespace Go.Proofs.YtfkkapdofjhgpaaGreatDoor
open Go.RowKit
set_option linter.unusedVariables false
set_option maxRecDepth 100000
def zh6 (ad : Nat->Addr) : Value:=.iface 218 (.agg #[.int .i64 1,.iface 334 (.pointer (some (ad 1)))])
def zwj (ad : Nat->Addr) (base : Nat) (s : Sf) (o : Oq) (u1 u2 u3 : Value) (told : Int) (err : Value) (w' : World) : Prop :=
  (zcj s=false/\err=zh6 ad) \/
  (zcj s=true/\(doOp s o).2.1 ≠ 0/\err=refErr ad (doOp s o).2.1) \/
  (zcj s=true/\(doOp s o).2.1=0/\told=(doOp s o).2.2/\err = .nilIface/\∃ ms : List Bk,OwnS base w' u1 u2 u3 (doOp s o).1.cs (doOp s o).1.ps ms/\ms.map Bk.pb=(doOp s o).1.bs)
def ChPart (ad : Nat->Addr) (base : Nat) (X : Sf × (Int × Int)) (u1 u2 u3 : Value) (told : Int) (err : Value) (w' : World) : Prop :=
  (X.2.1=0/\told=X.2.2/\err = .nilIface/\∃ ms : List Bk,OwnS base w' u1 u2 u3 X.1.cs X.1.ps ms/\ms.map Bk.pb=X.1.bs)\/(X.2.1=9/\err=refErr ad 9)
theorem ChPost.parts {ad : Nat->Addr} {base : Nat} {X : Sf × (Int × Int)} {e : Ending} {w' : World} (h : ChPost ad base X e w') : ∃ a1 n1 c1 a2 n2 c2 a3 n3 c3 told err,e = .returned (.tuple #[.agg #[.slice a1 n1 c1,.slice a2 n2 c2,.slice a3 n3 c3],.int .i64 told,err])/\ChPart ad base X (.slice a1 n1 c1) (.slice a2 n2 c2) (.slice a3 n3 c3) told err w':=by
  rcases h with ⟨h0,u1,u2,ub,ms,rfl,ow,hm⟩ | ⟨h9,rfl⟩
  · obtain ⟨o1,k1,o2,k2,ob,kb,rfl,rfl,rfl⟩:=ow.forms
    exact ⟨_,_,_,_,_,_,_,_,_,_,_,rfl,.inl ⟨h0,rfl,rfl,ms,ow,hm⟩⟩
  · exact ⟨_,_,_,_,_,_,_,_,_,_,_,rfl,.inr ⟨h9,rfl⟩⟩
theorem ChPart.own {ad : Nat->Addr} {base c : Nat} {X : Sf × (Int × Int)} {u1 u2 u3 : Value} {told : Int} {err : Value} {W W' : World} {xs : Array Value} (h : ChPart ad base X u1 u2 u3 told err W) (k : W.heap[c]? = some (.cells xs 30 (0,0))) (u : Upto c W W') : ChPart ad base X u1 u2 u3 told err W':=by
  rcases h with ⟨h0,h1,h2,ms,ow,hm⟩ | h
  · exact .inl ⟨h0,h1,h2,ms,OwnS.answer ow k u,hm⟩
  · exact .inr h
theorem ChPart.mono {ad : Nat->Addr} {base base' : Nat} {X : Sf × (Int × Int)} {u1 u2 u3 : Value} {told : Int} {err : Value} {W : World} (h : ChPart ad base X u1 u2 u3 told err W) (hb : base'<=base) : ChPart ad base' X u1 u2 u3 told err W:=by
  rcases h with ⟨h0,h1,h2,ms,ow,hm⟩ | h
  · exact .inl ⟨h0,h1,h2,ms,ow.mono hb,hm⟩
  · exact .inr h
theorem zwk {s : Sf} {o : Oq} (h : zdi s.bs o ≠ 0) : doOp s o=(s,(zdi s.bs o,0)):=by
  unfold zdi at h ⊢;cases hok : opOk o
  · rw [doOp,if_pos hok,if_pos rfl]
  · rw [hok,if_neg (by decide)] at h
    rw [doOp,if_neg (by rw [hok];decide),if_pos h,if_neg (by decide)]
theorem zwl {bs : List Pb} {o : Oq} (h : zdi bs o=0) : opOk o=true/\za5 bs o=0:=by
  unfold zdi at h;cases hok : opOk o
  · rw [hok,if_pos rfl] at h;cases h
  · rw [hok,if_neg (by decide)] at h;exact ⟨rfl,h⟩
theorem zum (v1 v2 vb : Value) (cs ps : List Int) (bks : List Bk) (k : Int) (nm ot : ByteArray) (at_ va ep : Int) (w : World) (ad : Nat->Addr) (hv : VarsS w ad) (hnb : ∀ b ∈ bks,b.nm.size<=maxLen) (hf : ∀ b ∈ bks,zb9 b.rs) (hn : nm.size<=maxLen) (hot : ot.size<=maxLen) (fk : I64 k) (fa : I64 at_) (fv : I64 va) (fe : I64 ep) (r : RS w.heap.size w v1 v2 vb cs ps bks) :
    Calls Tryz.prog 185 #[.agg #[v1,v2,vb],.agg #[.int .i64 k,.string nm,.string ot,.int .i64 at_,.int .i64 va,.int .i64 ep]] w fun e w'=>(∃ a1 n1 c1 a2 n2 c2 a3 n3 c3 told err,e = .returned (.tuple #[.agg #[.slice a1 n1 c1,.slice a2 n2 c2,.slice a3 n3 c3],.int .i64 told,err])/\zwj ad w.heap.size ⟨cs,ps,bks.map Bk.pb⟩ ⟨k,nm,ot,at_,va,ep⟩ (.slice a1 n1 c1) (.slice a2 n2 c2) (.slice a3 n3 c3) told err w')/\Below w.heap.size w w':=by
  obtain ⟨o1,k1,o2,k2,ob,kb,rfl,rfl,rfl⟩:=r.forms;obtain ⟨W0,hW0,kA,kO,kR,d0,z0⟩:=zg0 w #[.slice o1 cs.length k1,.slice o2 ps.length k2,.slice ob bks.length kb] #[.int .i64 k,.string nm,.string ot,.int .i64 at_,.int .i64 va,.int .i64 ep] #[.slice none 0 0,.slice none 0 0,.slice none 0 0] 30 37 30;have HW0 : Hid (W0 = _):=hW0;have r0:=(r.below d0).mono d0.size;have hv0:=hv.below d0;have zr : w.heap.size+1+1 < W0.heap.size:=by omega
  have hgl : 1 < w.heap.size:=zf8 hv.ws;have HNB : Hid _:=hnb;have HFF : Hid _:=hf;clear hW0 z0 r hv hnb hf;obtain ⟨p0,p1,p2⟩:=cq3 kA;have hso : ∀ (v1 v2 vb : Value) (w : World) (r : RS w.heap.size w v1 v2 vb cs ps bks),_:=fun v1 v2 vb w r=>zkg v1 v2 vb cs ps bks w HNB.out HFF.out r.p.c r.p.p r.b
  obtain ⟨B,hB⟩ : ∃ B,zcj ⟨cs,ps,bks.map Bk.pb⟩=B:=⟨_,rfl⟩
  simp only [hB] at hso;have HSB : Hid (zcj ⟨cs,ps,bks.map Bk.pb⟩=B):=hB;clear hB
  go_enter Tryz.func185,Tryz.ntmps185
  go_wp2_with fail
  rw [<- HW0.out];clear HW0;refine (hso _ _ _ _ r0).mono ?_;rintro e w1 ⟨rfl,b1⟩;have kA1:=kb0 b1 kA;have kO1:=kb0 b1 kO;have kR1:=kb0 b1 kR;have r1:=(r0.below b1).mono b1.size;have hv1:=hv0.below b1;have d1:=za1 d0 b1;have hl1 : w.heap.size+1+1 < w1.heap.size:=Nat.lt_of_lt_of_le zr b1.size;clear b1 kA kO kR r0 hv0 d0 zr hso p0 p1 p2;cases B
  · have HD : Hid (Below w.heap.size w w1):=d1
    have HS : Hid _:=zaq (w:=w) (W:=w1.drew) kR1 (by omega) (zar d1) (.slice none 0 0) (.slice none 0 0) (.slice none 0 0);have G9 : w1.drew.cell? ⟨1,0,none⟩=some (.iface 334 (.pointer (some (ad 1)))):=hv1.ws;have q0 : w1.drew.cell? ⟨w.heap.size+1+1,0,none⟩ = _:=za0 kR1 0;have q1 : w1.drew.cell? ⟨w.heap.size+1+1,1,none⟩ = _:=za0 kR1 1;have q2 : w1.drew.cell? ⟨w.heap.size+1+1,2,none⟩ = _:=za0 kR1 2;have e0 : w1.drew.frozen? ⟨w.heap.size+1+1,0,none⟩ = _:=za8 kR1 0;have e1 : w1.drew.frozen? ⟨w.heap.size+1+1,1,none⟩ = _:=za8 kR1 1;have e2 : w1.drew.frozen? ⟨w.heap.size+1+1,2,none⟩ = _:=za8 kR1 2;have q0':=za0 kR1 0;have q1':=za0 kR1 1;have q2':=za0 kR1 2;have e0':=za8 kR1 0;have e1':=za8 kR1 1;have e2':=za8 kR1 2;have G9' : w1.cell? ⟨1,0,none⟩=some (.iface 334 (.pointer (some (ad 1)))):=hv1.ws;have g1 : ¬ (1 : Nat)=w.heap.size+1+1:=by omega
    have g2 : ¬ w.heap.size+1+1=(1 : Nat):=by omega
    clear kA1 kO1 r1 hv1 d1
    go_wp2_with fail
    go_region_law (fail)
    all_goals
      have HT0 : Hid _:=zaq (w:=w) (W:=w1) kR1 (by omega) HD.out (.slice none 0 0) (.slice none 0 0) (.slice none 0 0);clear q0 q1 q2 e0 e1 e2 q0' q1' q2' e0' e1' e2' G9 G9' kR1
      go_wp2_with fail
      exact bodyPost_ret (v:=.tuple #[.agg #[.slice none 0 0,.slice none 0 0,.slice none 0 0],.int .i64 0,zh6 ad]) (by first | simp [results,Tryz.results185,go_sem,za0 HT0.out.1,zh6] | simp [results,Tryz.results185,go_sem,za0 HS.out.1,zh6]) rfl ⟨⟨_,_,_,_,_,_,_,_,_,_,_,rfl,.inl ⟨HSB.out,rfl⟩⟩,by first | exact zar HT0.out.2.2 | exact HS.out.2.2⟩
  · have inv:=(zgn _).1 HSB.out
    have F:=zcm inv;have HINV : Hid _:=inv;have hl6:=F.few;have HEP : Hid (∀ b ∈ bks,b.ep<=1000):=fun b hb=>(F.ep b hb).2
    have HMS : Hid (∀ b ∈ bks,∃ o k cap,b.m = .slice o k cap):=fun b hb=>by obtain ⟨o,c,h,-⟩:=r1.b.maps b hb;exact ⟨o,_,c,h⟩
    have hrf : ∀ (vb : Value) (w : World) (hv : Vars w ad) (r : ReadsR 5 bookC w.heap.size w vb bks),_:=fun vb w hv r=>zmm k fk vb bks nm ot at_ va ep w ad hv hn hot fa fv fe hl6 HEP.out HMS.out r
    obtain ⟨C,hC⟩ : ∃ C,zdi (bks.map Bk.pb) ⟨k,nm,ot,at_,va,ep⟩=C:=⟨_,rfl⟩
    simp only [hC] at hrf;have HC : Hid (zdi (bks.map Bk.pb) ⟨k,nm,ot,at_,va,ep⟩=C):=hC;clear hC;have p2:=za0 kA1 2;obtain ⟨q0,q1,q2,q3,q4,q5⟩:=cq6 kO1;have hc1 : cs.length<=1048576:=by have:=F.c24;omega
    have hp1 : ps.length<=1048576:=by have:=F.c24;have:=F.len;omega
    have HNL : Hid (∀ b ∈ bks,b.nm.size<=1099511627776):=fun b hb=>by have:=F.nm b hb;omega
    have HRL : Hid (∀ b ∈ bks,b.rs.length<=1048576):=fun b hb=>by have:=F.rs b hb;omega
    clear inv F
    go_wp2_with fail
    clear p2 q0 q1 q2 q3 q4 q5;refine (hrf _ _ hv1.v r1.b.row).mono ?_;rintro e w2 ⟨rfl,b2⟩;have kA2:=kb0 b2 kA1;have kO2:=kb0 b2 kO1;have kR2:=kb0 b2 kR1;have r2:=(r1.below b2).mono b2.size;have hv2:=hv1.below b2;have d2:=za1 d1 b2;have hl2 : w.heap.size+1+1 < w2.heap.size:=Nat.lt_of_lt_of_le hl1 b2.size;clear b2 kA1 kO1 kR1 r1 hv1 d1 hl1 hrf;by_cases h0 : C=0
    · obtain ⟨hok,hre⟩:=zwl (HC.out.trans h0)
      have HOK : Hid _:=hok;have HRE : Hid _:=hre;subst h0;rw [show refErr ad 0 = .nilIface from rfl];have hsm : ∀ (v1 v2 vb : Value) (w : World) (r : RS w.heap.size w v1 v2 vb cs ps bks),_:=fun v1 v2 vb w r=>zhs v1 v2 vb cs ps bks w hc1 hp1 hl6 HNL.out HRL.out r
      go_wp2_with fail
      have HKeep : ∀ X,Below w2.heap.size w2 X->(X.cell? ⟨w.heap.size,0,none⟩=some (.slice o1 cs.length k1)/\X.cell? ⟨w.heap.size,1,none⟩=some (.slice o2 ps.length k2)/\X.cell? ⟨w.heap.size,2,none⟩=some (.slice ob bks.length kb)/\X.cell? ⟨w.heap.size+1,0,none⟩=some (.int .i64 k)/\X.cell? ⟨w.heap.size+1,1,none⟩=some (.string nm)/\X.cell? ⟨w.heap.size+1,2,none⟩=some (.string ot)/\X.cell? ⟨w.heap.size+1,3,none⟩=some (.int .i64 at_)/\X.cell? ⟨w.heap.size+1,4,none⟩=some (.int .i64 va)/\X.cell? ⟨w.heap.size+1,5,none⟩=some (.int .i64 ep)):=fun X hb=>by
        have x1:=kb0 hb kA2;have x2:=kb0 hb kO2;exact ⟨za0 x1 0,za0 x1 1,za0 x1 2,za0 x2 0,za0 x2 1,za0 x2 2,za0 x2 3,za0 x2 4,za0 x2 5⟩
      have HKeep2 : ∀ (X Y : World),Below w2.heap.size w2 X->Upto (w.heap.size+1+1) X Y->(Y.cell? ⟨w.heap.size,0,none⟩=some (.slice o1 cs.length k1)/\Y.cell? ⟨w.heap.size,1,none⟩=some (.slice o2 ps.length k2)/\Y.cell? ⟨w.heap.size,2,none⟩=some (.slice ob bks.length kb)/\Y.cell? ⟨w.heap.size+1,0,none⟩=some (.int .i64 k)/\Y.cell? ⟨w.heap.size+1,1,none⟩=some (.string nm)/\Y.cell? ⟨w.heap.size+1,2,none⟩=some (.string ot)/\Y.cell? ⟨w.heap.size+1,3,none⟩=some (.int .i64 at_)/\Y.cell? ⟨w.heap.size+1,4,none⟩=some (.int .i64 va)/\Y.cell? ⟨w.heap.size+1,5,none⟩=some (.int .i64 ep)):=fun X Y hb u=>by
        have x1:=kb0 hb kA2;have x2:=kb0 hb kO2;have x1:=(u.block _ (za2 x1) (by omega)).trans x1;have x2:=(u.block _ (za2 x2) (by omega)).trans x2;exact ⟨za0 x1 0,za0 x1 1,za0 x1 2,za0 x2 0,za0 x2 1,za0 x2 2,za0 x2 3,za0 x2 4,za0 x2 5⟩
      have UP : ∀ (X : World) (z0 z1 z2 : Value),Upto (w.heap.size+1+1) X (((X.setCell ⟨w.heap.size+1+1,0,none⟩ z0).setCell ⟨w.heap.size+1+1,1,none⟩ z1).setCell ⟨w.heap.size+1+1,2,none⟩ z2):=fun X z0 z1 z2=>(((Upto.refl _ _).setCell ⟨_,0,none⟩ (.inl rfl) _).setCell ⟨_,1,none⟩ (.inl rfl) _).setCell ⟨_,2,none⟩ (.inl rfl) _
      have A1 : Below w2.heap.size w2 w2.drew:=zar (Below.refl _ _);have rd : RS w2.drew.heap.size w2.drew _ _ _ cs ps bks:=r2.below A1
      go_region_held3 (fun w'=>w'.cell? ⟨w.heap.size,0,none⟩=some (.slice o1 cs.length k1)/\w'.cell? ⟨w.heap.size,1,none⟩=some (.slice o2 ps.length k2)/\w'.cell? ⟨w.heap.size,2,none⟩=some (.slice ob bks.length kb)/\w'.cell? ⟨w.heap.size+1,0,none⟩=some (.int .i64 k)/\w'.cell? ⟨w.heap.size+1,1,none⟩=some (.string nm)/\w'.cell? ⟨w.heap.size+1,2,none⟩=some (.string ot)/\w'.cell? ⟨w.heap.size+1,3,none⟩=some (.int .i64 at_)/\w'.cell? ⟨w.heap.size+1,4,none⟩=some (.int .i64 va)/\w'.cell? ⟨w.heap.size+1,5,none⟩=some (.int .i64 ep))
        ((first | exact HKeep2 _ _ A8 (UP _ _ _ _) | (refine HKeep _ ?_;repeat (first | exact Below.refl _ _ | exact A8 | exact A7 | refine zar ?_))))
        ((first
          | (go_at_call 188;refine (hsm _ _ _ _ rd).mono ?_;rintro e w7 ⟨x1,x2,xb,ms,rfl,hms,ow7,b7⟩;have A7 : Below w2.heap.size w2 w7:=za1 A1 b7;obtain ⟨y1,j1,y2,j2,yb,jb,e1,e2,e3⟩:=ow7.forms;subst e1 e2 e3;have hv7:=(hv2.below A1).below b7;have HM7 : Hid (ms.map Bk.pb=bks.map Bk.pb):=hms;clear hms;have sz7:=b7.size;skip)
          | (go_at_call 208;refine (zqe k _ _ _ _ cs ps ms nm ot at_ va ep _ ad hv7.v sz7 (by rw [HM7.out];exact HINV.out) HOK.out (by rw [HM7.out];exact HRE.out) ow7).mono ?_;rintro e w8 ⟨hp,b8⟩;rw [HM7.out] at hp;obtain ⟨a1,n1,c1,a2,n2,c2,a3,n3,c3,told,err,rfl,hp8⟩:=hp.parts;have A8 : Below w2.heap.size w2 w8:=za1 A7 b8;have kR8:=kb0 A8 kR2;have t0:=za0 kR8 0;have t1:=za0 kR8 1;have t2:=za0 kR8 2;have e0:=za8 kR8 0;have e1:=za8 kR8 1;have e2:=za8 kR8 2;have HP8 : Hid (ChPart ad w2.drew.heap.size (doOp ⟨cs,ps,bks.map Bk.pb⟩ ⟨k,nm,ot,at_,va,ep⟩) (.slice a1 n1 c1) (.slice a2 n2 c2) (.slice a3 n3 c3) told err w8):=hp8;clear hp hp8;skip)))
      all_goals
        have HS : Hid _:=zaq (w:=w) kR8 (by omega) (za1 d2 A8) (.slice a1 n1 c1) (.slice a2 n2 c2) (.slice a3 n3 c3);have HG : Hid (ChPart ad w.heap.size (doOp ⟨cs,ps,bks.map Bk.pb⟩ ⟨k,nm,ot,at_,va,ep⟩) (.slice a1 n1 c1) (.slice a2 n2 c2) (.slice a3 n3 c3) told err _):=(HP8.out.own kR8 HS.out.2.1).mono (show w.heap.size<=w2.heap.size by omega);clear HP8 kR8 A8 b8 ow7 b7 A7 hv7 rd A1 HKeep HKeep2 UP kA2 kO2 kR2 r2 hv2 d2 hsm
        go_wp2_with fail
        exact bodyPost_ret (v:=.tuple #[.agg #[.slice a1 n1 c1,.slice a2 n2 c2,.slice a3 n3 c3],.int .i64 told,err]) (by simp [results,Tryz.results185,go_sem,za0 HS.out.1]) rfl ⟨⟨_,_,_,_,_,_,_,_,_,_,_,rfl,by
          rcases HG.out with ⟨h0,h1,h2,ms',ow,hm⟩ | ⟨h9,he⟩
          · exact .inr (.inr ⟨HSB.out,h0,h1,h2,ms',ow,hm⟩)
          · exact .inr (.inl ⟨HSB.out,by rw [h9];decide,by rw [h9];exact he⟩)⟩,HS.out.2.2⟩
    · have HDO : Hid (doOp ⟨cs,ps,bks.map Bk.pb⟩ ⟨k,nm,ot,at_,va,ep⟩=(⟨cs,ps,bks.map Bk.pb⟩,(C,0))):=by
        have h:=zwk (s:=⟨cs,ps,bks.map Bk.pb⟩) (o:=⟨k,nm,ot,at_,va,ep⟩) (by show zdi (bks.map Bk.pb) _ ≠ 0;rw [HC.out];exact h0);rw [Hid,h]
        show (_,(zdi (bks.map Bk.pb) _,0)) = _
        rw [HC.out]
      have HC0 : Hid (C ≠ 0):=h0;have HR : Hid (refErr ad C = .iface 218 (.agg #[.int .i64 C,.iface 334 (.pointer (some (ad (zhk C))))])):=by rw [Hid,refErr,if_neg h0]
      rw [HR.out];have HS : Hid _:=zaq (w:=w) kR2 (by omega) d2 (.slice none 0 0) (.slice none 0 0) (.slice none 0 0);obtain ⟨t0,t1,t2⟩:=cq3 kR2;obtain ⟨e0,e1,e2⟩:=oq3 kR2;clear kA2 kO2 kR2 r2 hv2 d2 h0
      go_wp2_with fail
      exact bodyPost_ret (v:=.tuple #[.agg #[.slice none 0 0,.slice none 0 0,.slice none 0 0],.int .i64 0,.iface 218 (.agg #[.int .i64 C,.iface 334 (.pointer (some (ad (zhk C))))])]) (by simp [results,Tryz.results185,go_sem,za0 HS.out.1]) rfl ⟨⟨_,_,_,_,_,_,_,_,_,_,_,rfl,.inr (.inl ⟨HSB.out,by rw [HDO.out];exact HC0.out,by rw [HDO.out];exact HR.out.symm⟩)⟩,HS.out.2.2⟩
end Go.Proofs.YtfkkapdofjhgpaaGreatDoor
