import Derived.Deep.RegionLaw
import Derived.WalkKit
import Derived.Test.YtfkkapdofjhgpaaGreatDoorM01
import Derived.Test.YtfkkapdofjhgpaaGreatDoorM02
import Derived.Test.YtfkkapdofjhgpaaGreatDoorM03
set_option maxHeartbeats 12800000
namespace Go.Proofs.YtfkkapdofjhgpaaGreatDoor
open Go.RowKit
set_option linter.unusedVariables false
theorem zet (rs : List (Int × Int × Int)) (e : Int) (pv : Option (Int × Int × Int)) (h : okFrom e pv rs=true) (he : 0<=e) : ∀ r ∈ rs,0<=r.1/\1<=r.2.1/\r.1+r.2.1<=16/\0<=r.2.2/\r.2.2+r.2.1<=24:=by
  induction rs generalizing e pv with
  | nil=>intro r hr;cases hr
  | cons q qs ih =>
    obtain ⟨f,c,p⟩:=q;rw [okFrom,Bool.and_eq_true,zby] at h;intro r hr;rcases List.mem_cons.1 hr with rfl | hr
    · simp only;omega
    · exact ih _ _ h.2 (by simp only;omega) r hr
theorem zn6 (rs : List (Int × Int × Int)) (i : Nat) (h : i < rs.length) : (rs.take (i+1)).foldl zc8 none16=zc8 ((rs.take i).foldl zc8 none16) rs[i]:=by
  rw [List.take_succ_eq_append_getElem h,List.foldl_append];rfl
theorem zco (v : Value) (rs : List (Int × Int × Int)) (w : World) (hok : mapOk rs=true) (r : ReadsR 3 zak w.heap.size w v rs) :
    Calls Tryz.prog 143 #[v] w fun e w'=>∃ g cap : Nat,e = .returned (.slice (some ⟨g,0,none⟩) 16 cap)/\w'.ownsRow w.heap.size 2 1 (.slice (some ⟨g,0,none⟩) 16 cap) 16 ((za7 rs).map (Value.int .i64))/\Below w.heap.size w w':=by
  obtain ⟨i0,hi,hz0,hz1,hz2⟩:=info_parts Tryz.infoI64;obtain ⟨o,cap,rfl,hm,hc,-⟩:=r;have HC : Hid _:=zcn hc;have HM : Hid _:=zet rs 0 none (zcq hok) (by omega);unfold maxLen at hm;have own0 : (w.alloc (.cells #[] 2)).ownsRow w.heap.size 2 1 (.slice (some ⟨w.heap.size,0,none⟩) 0 0) 0 []:=World.ownsRow_lit w #[] 0 (Nat.le_refl _) (Nat.zero_le _) rfl;have d0 : Below w.heap.size w (w.alloc (.cells #[] 2)):=za3 (Below.refl _ _);clear hc hok
  go_enter Tryz.func143,Tryz.ntmps143
  go_wp2_with fail
  go_loopw [3,4] (fun q i wr=>∃ (k g cp : Nat),k<=16/\i = .int .i64 k/\q = .slice (some ⟨g,0,none⟩) k cp/\wr.ownsRow w.heap.size 2 1 (.slice (some ⟨g,0,none⟩) k cp) k ((List.replicate k (-1 : Int)).map (Value.int .i64))/\Below w.heap.size w wr) (fun _ i _=>16 - (intOf i).toNat)
  case atStart=>exact ⟨0,_,_,Nat.zero_le _,rfl,rfl,own0,d0⟩
  case round =>
    clear own0 d0;obtain ⟨k,g,cp,hk,rfl,rfl,own,hb⟩:=hrel;by_cases hlt : k < 16
    · have hk1 : (k : Int) < 16:=by omega
      go_wp2_with (at_builtin;refine wpList_append_own _ rfl _ _ 25 rfl w.heap.size 2 i0 (.int .i64 0) 1 8 Tryz.underlying25 hi hz0 hz1 hz2 rfl (by decide) _ _ _ rfl (own.alloc _) ⟨wr.heap.size,0,none⟩ 1 1 [.int .i64 (-1)] rfl rfl ?c1 ?c2 ?c3 ?c4 ?c5 ?_)
      case c1=>exact zkj _ _ _
      case c2=>intro u hu;simp at hu;subst hu;rfl
      case c3=>unfold maxLen;omega
      case c4=>omega
      case c5=>have:=hb.size;simp;omega
      intro v' w3 hown' hgrow hnil;have hb3 : Below w.heap.size w w3:=(za3 hb).grown hgrow (by have:=hb.size;simp;omega) (fun q hq=>(own.lt q hq).1);have e1 : (List.replicate k (-1 : Int)).map (Value.int .i64) ++ [.int .i64 (-1)]=(List.replicate (k+1) (-1 : Int)).map (Value.int .i64):=by simp [List.replicate_succ']
      have own3 : w3.ownsRow w.heap.size 2 1 v' (k+1) ((List.replicate (k+1) (-1 : Int)).map (Value.int .i64)):=by rw [<- e1];simpa using hown'
      obtain ⟨g',cp',hv'⟩:=zfn own3;subst hv';have HO : Hid _:=own3;clear hown' hgrow hnil own own3 e1
      go_wp2_with fail
      go_roundw
      case rel=>exact ⟨k+1,g',cp',by omega,by go_num,rfl,HO.out,hb3⟩
      case measure=>simp [intOf];omega
    · obtain rfl : k=16:=by omega
      have e16 : List.replicate 16 (-1 : Int)=none16:=rfl;rw [e16] at own;have hg0:=own.lt g rfl
      go_wp2_with fail
      go_loopw [5] (fun i wr2=>∃ (q : Nat),q<=rs.length/\i = .int .i64 q/\wr2.ownsRow w.heap.size 2 1 (.slice (some ⟨g,0,none⟩) 16 cp) 16 (((rs.take q).foldl zc8 none16).map (Value.int .i64))/\Below w.heap.size w wr2) (fun i _=>rs.length - (intOf i).toNat)
      case atStart=>exact ⟨0,Nat.zero_le _,rfl,own,hb⟩
      case round =>
        clear own hb;obtain ⟨q,hq,rfl,own,hb⟩:=hrel;by_cases hlt2 : q < rs.length
        · obtain ⟨g1,off,rfl,hg1,a0,a1,a2⟩:=HC.out q hlt2
          have hr:=HM.out rs[q] (List.getElem_mem hlt2);have HTF : Hid _:=zn6 rs q hlt2;have hl16 : ((rs.take q).foldl zc8 none16).length=16:=by rw [zg3];rfl
          generalize (rs.take q).foldl zc8 none16=L at own HTF hl16;generalize rs[q]=x at a0 a1 a2 hr HTF;obtain ⟨f,c,p⟩:=x;simp only at a0 a1 a2 hr;obtain ⟨F,rfl⟩:=Int.eq_ofNat_of_zero_le hr.1;obtain ⟨C,rfl⟩:=Int.eq_ofNat_of_zero_le (show 0<=c by omega);have HL : Hid (L.length=16):=hl16;clear hl16
          go_wp2_with fail
          go_loopw [6] (fun i wr3=>∃ (k : Nat),k<=C/\i = .int .i64 k/\wr3.ownsRow w.heap.size 2 1 (.slice (some ⟨g,0,none⟩) 16 cp) 16 ((lay L F p k).map (Value.int .i64))/\Below w.heap.size w wr3) (fun i _=>C - (intOf i).toNat)
          case atStart=>exact ⟨0,Nat.zero_le _,rfl,own,hb⟩
          case round =>
            clear own hb;obtain ⟨k,hk2,rfl,own,hb⟩:=hrel;replace a0:=(hb.cell (p:=⟨g1,off+q * 3,none⟩) hg1).trans a0;replace a1:=(hb.cell (p:=⟨g1,off+q * 3+1,none⟩) hg1).trans a1;replace a2:=(hb.cell (p:=⟨g1,off+q * 3+2,none⟩) hg1).trans a2;have hne : ¬ g=g1:=by have:=(own.lt g rfl).1;omega
            have hne' : ¬ g1=g:=fun e=>hne e.symm
            by_cases hlt3 : k < C
            · have hll : (lay L F p k).length=16:=by rw [zg2];exact HL.out
              have t0:=own.cellAt (F+k) (by omega);have t1:=own.frozenAt (F+k);rw [List.getElem?_map,List.getElem?_eq_getElem (show F+k < (lay L F p k).length by omega)] at t0;simp only [Option.map_some] at t0;have hst:=(own.stored (F+k) (.int .i64 (p+k))).1;rw [<- List.map_set] at hst;have hbf : Below w.heap.size w (wr.setCell ⟨g,F+k,none⟩ (.int .i64 (p+k))):=zb8 (p:=⟨g,F+k,none⟩) hb (own.lt g rfl).1 _;have HO : Hid _:=And.intro hst hbf;generalize (lay L F p k)[F+k]=y at t0;clear hst hbf own hll;have hi0 : (0 : Int)<=(F : Int)+(k : Int):=by omega
              have hi1 : (F : Int)+(k : Int) < 16:=by omega
              have hw1 : IntKind.i64.wrap ((F : Int)+(k : Int))=(F : Int)+(k : Int):=by rw [IntKind.wrap_i64];omega
              have hw2 : IntKind.i64.wrap (p+(k : Int))=p+(k : Int):=by rw [IntKind.wrap_i64];omega
              have hw3 : ((F : Int)+(k : Int)).toNat=F+k:=by omega
              have hj0 : (0 : Int)<=(q : Int):=by omega
              have hj1 : (q : Int) < (rs.length : Int):=by omega
              go_wp2_with fail
              go_region
              go_wp2_with fail
              go_roundw
              case rel=>exact ⟨k+1,by omega,by go_num,HO.out.1,zar HO.out.2⟩
              case measure=>simp [intOf];omega
            · obtain rfl : k=C:=by omega
              have e2 : ((rs.take (q+1)).foldl zc8 none16)=lay L F p k:=by rw [HTF.out];rfl
              rw [<- e2] at own;have HO : Hid _:=own;clear own e2
              go_wp2_with fail
              go_roundw
              case rel=>exact ⟨q+1,by omega,by go_num,HO.out,hb⟩
              case measure=>simp [intOf];omega
        · have hfin : rs.take q=rs:=List.take_of_length_le (by omega)
          rw [hfin] at own;have HO : Hid _:=own;clear own hfin
          go_wp2_with fail
          go_ret;exact ⟨g,cp,rfl,HO.out,hb⟩
theorem zv3 (k : Nat) (v : Int) (acc : List (Int × Int × Int)) (h : v < 0) : zhv k v acc=acc:=by unfold zhv;rw [if_pos h]
theorem zv4 (k : Nat) (v : Int) (h : ¬ v < 0) : zhv k v [] = [((k : Int),1,v)]:=by unfold zhv;rw [if_neg h];rfl
theorem zwz (k : Nat) (v : Int) (pre : List (Int × Int × Int)) (f c p : Int) (h : ¬ v < 0) (h1 : f+c=k) (h2 : p+c=v) : zhv k v (pre ++ [(f,c,p)])=pre ++ [(f,c+1,p)]:=by
  unfold zhv;rw [if_neg h,List.getLast?_concat];simp only;rw [if_pos ⟨h1,h2⟩,List.dropLast_concat]
theorem zv5 (k : Nat) (v : Int) (pre : List (Int × Int × Int)) (f c p : Int) (h : ¬ v < 0) (h1 : ¬ (f+c=k/\p+c=v)) : zhv k v (pre ++ [(f,c,p)])=pre ++ [(f,c,p)] ++ [((k : Int),1,v)]:=by
  unfold zhv;rw [if_neg h,List.getLast?_concat];simp only;rw [if_neg h1]
theorem znw {α : Type} (l : List α) (h : l ≠ []) : ∃ pre x,l=pre ++ [x]:=⟨l.dropLast,l.getLast h,(List.dropLast_concat_getLast h).symm⟩
theorem zeq (w : World) (r : Int × Int × Int) (t : TypeId) : ∀ (j : Nat) (u : Value),(zak r)[j]? = some u->(w.alloc (.cells #[.int .i64 r.1,.int .i64 r.2.1,.int .i64 r.2.2] t)).cell? ((⟨w.heap.size,0,none⟩ : Addr).add j)=some u:=by
  intro j u hj;rw [zgj]
  match j,hj with
  | 0,hj=>simp [zak] at hj;subst hj;simp [go_sem]
  | 1,hj=>simp [zak] at hj;subst hj;simp [go_sem]
  | 2,hj=>simp [zak] at hj;subst hj;simp [go_sem]
set_option maxRecDepth 100000 in
theorem zha (v : Value) (l : List Int) (w : World) (hl : l.length=16) (hv : ∀ j,j < 16->-1<=l.getD j 0/\l.getD j 0<=23) (r : Reads w.heap.size w v (l.map (Value.int .i64))) :
    Calls Tryz.prog 146 #[v] w fun e w'=>∃ v' : Value,e = .returned v'/\w'.ownsRow w.heap.size 172 3 v' (mapOf l).length ((mapOf l).flatMap zak)/\v' ≠ .slice none 0 0/\Below w.heap.size w w':=by
  obtain ⟨i0,hi,hz0,hz1,hz2⟩:=info_parts Tryz.infoRun;obtain ⟨o,cap,rfl,hm,hc,-⟩:=r;have hlm : (l.map (Value.int .i64)).length=16:=by simp [hl]
  rw [hlm];have HC : Hid (∀ j,j < 16->∃ g off,o=some ⟨g,off,none⟩/\g < w.heap.size/\w.cell? ⟨g,off+j,none⟩=some (.int .i64 (l.getD j 0))):=fun j hj=>hc j _ (by rw [List.getElem?_map,List.getElem?_eq_getElem (by omega),List.getD_eq_getElem?_getD,List.getElem?_eq_getElem (by omega)];rfl)
  have HU : Hid (∀ n,n<=16->UptoOk l n (upto l n)):=fun n hn=>znv l hl hv n hn
  have HV : Hid _:=hv;have HF : Hid (mapOf l=upto l 16):=by rw [Hid,mapOf,hl]
  have own0 : (w.alloc (.cells #[] 172)).ownsRow w.heap.size 172 3 (.slice (some ⟨w.heap.size,0,none⟩) 0 0) 0 []:=World.ownsRow_lit w #[] 0 (Nat.le_refl _) (Nat.zero_le _) rfl;have d0 : Below w.heap.size w (w.alloc (.cells #[] 172)):=za3 (Below.refl _ _);clear hc hm hlm hv hl
  go_enter Tryz.func146,Tryz.ntmps146
  go_wp2_with fail
  go_loopw [3,4] (fun q i wr=>∃ (k g cp : Nat) (acc : List (Int × Int × Int)),k<=16/\i = .int .i64 k/\q = .slice (some ⟨g,0,none⟩) acc.length cp/\acc=upto l k/\wr.ownsRow w.heap.size 172 3 (.slice (some ⟨g,0,none⟩) acc.length cp) acc.length (acc.flatMap zak)/\Below w.heap.size w wr) (fun _ i _=>16 - (intOf i).toNat)
  case atStart=>exact ⟨0,_,_,[],Nat.zero_le _,rfl,rfl,rfl,own0,d0⟩
  case round =>
    clear own0 d0;obtain ⟨k,g,cp,acc,hk,rfl,rfl,hacc,own,hb⟩:=hrel;have HACC : Hid (acc=upto l k):=hacc;by_cases hlt : k < 16
    · obtain ⟨g1,off,rfl,hg1,a0⟩:=HC.out k hlt
      have hvb:=HV.out k hlt;have hup:=HU.out k hk;rw [<- hacc] at hup;have HNX : Hid (upto l (k+1)=zhv k (l.getD k 0) acc):=by rw [Hid,hacc];rfl
      have hfew:=hup.few;replace a0:=(hb.cell (p:=⟨g1,off+k,none⟩) hg1).trans a0;have hmem:=zet acc 0 none hup.ok (by omega);have HMEM : Hid _:=hmem;have HEND : Hid _:=hup.endAt;clear hmem hup hacc HC HV HU;generalize l.getD k 0=z at a0 hvb HNX;have hk0 : (0 : Int)<=(k : Int):=by omega
      have hk1 : (k : Int) < 16:=by omega
      by_cases hneg : z < 0
      · have HN2 : Hid (acc=upto l (k+1)):=by rw [Hid,HNX.out,zv3 k z acc hneg]
        go_wp2_with fail
        go_roundw
        case rel=>exact ⟨k+1,g,cp,acc,by omega,by go_num,rfl,HN2.out,own,hb⟩
        case measure=>simp [intOf];omega
      · by_cases hA : acc = []
        · have HN2 : Hid ([] ++ [((k : Int),1,z)]=upto l (k+1)):=by rw [Hid,HNX.out,hA,zv4 k z hneg];rfl
          subst hA;have OWN : Hid (∀ (n : Nat) (o : Obj),((wr.drewN n).alloc o).ownsRow w.heap.size 172 3 (.slice (some ⟨g,0,none⟩) 0 cp) 0 []):=fun n o=>(za9 own (by exact ⟨rfl,rfl,rfl,Nat.le_refl _,fun _ _=>rfl⟩)).alloc o
          have OWNL : Hid (∀ q,(Value.slice (some ⟨g,0,none⟩) 0 cp).ownBlock=some q->w.heap.size<=q):=fun q hq=>(own.lt q hq).1
          clear own
          go_wp2_with fail
          go_quiet (fail)
          go_wp2_with (at_builtin;refine wpList_append_own _ rfl _ _ 115 rfl w.heap.size 172 i0 (.agg #[.int .i64 0,.int .i64 0,.int .i64 0]) 3 24 Tryz.underlying115 hi hz0 hz1 hz2 rfl (by decide) _ _ _ rfl (OWN.out _ _) ⟨wr.heap.size,0,none⟩ 1 1 (zak ((k : Int),1,z)) rfl rfl ?c1 ?c2 ?c3 ?c4 ?c5 ?_)
          case c1=>exact zeq _ _ _
          case c2=>intro u hu;simp [zak] at hu;rcases hu with rfl | rfl | rfl <;> rfl
          case c3 => have hmx : (20 : Nat) <= maxLen := by unfold maxLen;omega
                     omega
          case c4=>omega
          case c5=>have:=hb.size;simp;omega
          intro v' w3 hown' hgrow hnil;have own3 : w3.ownsRow w.heap.size 172 3 v' (([] : List (Int × Int × Int)) ++ [((k : Int),1,z)]).length ((([] : List (Int × Int × Int)) ++ [((k : Int),1,z)]).flatMap zak):=by simpa using hown'
          obtain ⟨g',cp',hv'⟩ : ∃ g' cp',v' = .slice (some ⟨g',0,none⟩) (([] : List (Int × Int × Int)) ++ [((k : Int),1,z)]).length cp':=by
            rcases own3.2 with ⟨e,_⟩ | ⟨g',cp',_,e,_⟩
            · exact absurd e hnil
            · exact ⟨g',cp',e⟩
          have hb3 : Below w.heap.size w w3:=(za3 (show Below w.heap.size w (wr.drewN _) from ⟨hb.os,hb.tape,hb.output,hb.size,hb.block⟩)).grown hgrow (by have:=hb.size;simp;omega) (fun q hq=>(OWNL.out q hq));subst hv';have HO : Hid _:=own3;clear hown' hgrow hnil own3 OWN
          go_wp2_with fail
          go_roundw
          case rel=>exact ⟨k+1,g',cp',_,by omega,by go_num,by simp,HN2.out,HO.out,hb3⟩
          case measure=>simp [intOf];omega
        · obtain ⟨pre,⟨f,c,p⟩,rfl⟩:=znw acc hA
          have hbd:=HMEM.out (f,c,p) (by simp);simp only at hbd;have hpl : pre.length+1<=16:=by simp at hfew;omega
          obtain ⟨⟨t0,t1,t2⟩,u0,u1,u2⟩:=zfp own pre.length (by simp);simp only [List.getElem_concat_length] at t0 t1 t2;have hlen : (pre ++ [(f,c,p)]).length=pre.length+1:=by simp
          have hw1 : IntKind.i64.wrap ((pre.length : Int)+1 - 1)=pre.length:=by rw [IntKind.wrap_i64];omega
          have hw2 : (pre.length : Int)+1 - 1=pre.length:=by omega
          have hw3 : IntKind.i64.wrap (pre.length : Int)=pre.length:=by rw [IntKind.wrap_i64];omega
          have hw4 : IntKind.i64.wrap (f+c)=f+c:=by rw [IntKind.wrap_i64];omega
          have hw5 : IntKind.i64.wrap (p+c)=p+c:=by rw [IntKind.wrap_i64];omega
          have hj0 : (0 : Int)<=(pre.length : Int):=by omega
          by_cases hon : f+c=k/\p+c=z
          · have HN2 : Hid (pre ++ [(f,c+1,p)]=upto l (k+1)):=by rw [Hid,HNX.out,zwz k z pre f c p hneg hon.1 hon.2]
            have hput:=fun n : Nat=>zb2 zat (za9 own (show Below wr.heap.size wr (wr.drewN n) from ⟨rfl,rfl,rfl,Nat.le_refl _,fun _ _=>rfl⟩)) pre.length 1 (f,c,p) (f,c+1,p) (.int .i64 (c+1)) (by simp) (by omega) rfl
            have hbf:=fun n : Nat=>zb8 (w:=w) (W:=wr.drewN n) (p:=⟨g,pre.length * 3+1,none⟩) ⟨hb.os,hb.tape,hb.output,hb.size,hb.block⟩ (own.lt g rfl).1 (.int .i64 (c+1))
            rw [show (pre ++ [(f,c,p)]).set pre.length (f,c+1,p)=pre ++ [(f,c+1,p)] by simp] at hput;have HO : Hid _:=fun n=>And.intro (hput n) (hbf n)
            have e1 : (f+c == (k : Int))=true:=by simpa using hon.1
            have e2 : (p+c == z)=true:=by simpa using hon.2
            clear own hput hbf hon HMEM HEND hA HACC
            go_wp2_with fail
            go_quiet (fail)
            go_wp2_with fail
            go_roundw
            case rel=>exact ⟨k+1,g,cp,pre ++ [(f,c+1,p)],by omega,by go_num,by simp,HN2.out,by simpa using (HO.out _).1,(HO.out _).2⟩
            case measure=>simp [intOf];omega
          · have HN2 : Hid (pre ++ [(f,c,p)] ++ [((k : Int),1,z)]=upto l (k+1)):=by rw [Hid,HNX.out,zv5 k z pre f c p hneg hon]
            have OWN : Hid (∀ (n : Nat) (o : Obj),((wr.drewN n).alloc o).ownsRow w.heap.size 172 3 (.slice (some ⟨g,0,none⟩) (pre.length+1) cp) (pre.length+1) ((pre ++ [(f,c,p)]).flatMap zak)):=fun n o=>by
              have h:=(za9 own (show Below wr.heap.size wr (wr.drewN n) from ⟨rfl,rfl,rfl,Nat.le_refl _,fun _ _=>rfl⟩)).alloc o
              rwa [hlen] at h
            have OWNL : Hid (∀ q,(Value.slice (some ⟨g,0,none⟩) (pre.length+1) cp).ownBlock=some q->w.heap.size<=q):=fun q hq=>(own.lt q (by simpa [Value.ownBlock] using hq)).1
            clear own HMEM HEND hA HACC;by_cases h1 : f+c=(k : Int)
            · have h2 : ¬ p+c=z:=fun h=>hon ⟨h1,h⟩
              have e1 : (f+c == (k : Int))=true:=by simpa using h1
              have e2 : (p+c == z)=false:=by simpa using h2
              clear hon
              go_wp2_with fail
              go_quiet (fail)
              go_wp2_with (at_builtin;refine wpList_append_own _ rfl _ _ 115 rfl w.heap.size 172 i0 (.agg #[.int .i64 0,.int .i64 0,.int .i64 0]) 3 24 Tryz.underlying115 hi hz0 hz1 hz2 rfl (by decide) _ _ _ rfl (OWN.out _ _) ⟨wr.heap.size,0,none⟩ 1 1 (zak ((k : Int),1,z)) rfl rfl ?c1 ?c2 ?c3 ?c4 ?c5 ?_)
              case c1=>exact zeq _ _ _
              case c2=>intro u hu;simp [zak] at hu;rcases hu with rfl | rfl | rfl <;> rfl
              case c3 => have hmx : (20 : Nat) <= maxLen := by unfold maxLen;omega
                         omega
              case c4=>omega
              case c5=>have:=hb.size;simp;omega
              intro v' w3 hown' hgrow hnil;have own3 : w3.ownsRow w.heap.size 172 3 v' ((pre ++ [(f,c,p)]) ++ [((k : Int),1,z)]).length (((pre ++ [(f,c,p)]) ++ [((k : Int),1,z)]).flatMap zak):=by simpa using hown'
              obtain ⟨g',cp',hv'⟩ : ∃ g' cp',v' = .slice (some ⟨g',0,none⟩) ((pre ++ [(f,c,p)]) ++ [((k : Int),1,z)]).length cp':=by
                rcases own3.2 with ⟨e,_⟩ | ⟨g',cp',_,e,_⟩
                · exact absurd e hnil
                · exact ⟨g',cp',e⟩
              have hb3 : Below w.heap.size w w3:=(za3 (show Below w.heap.size w (wr.drewN _) from ⟨hb.os,hb.tape,hb.output,hb.size,hb.block⟩)).grown hgrow (by have:=hb.size;simp;omega) (fun q hq=>(OWNL.out q hq));subst hv';have HO : Hid _:=own3;clear hown' hgrow hnil own3 OWN
              go_wp2_with fail
              go_roundw
              case rel=>exact ⟨k+1,g',cp',_,by omega,by go_num,by simp,HN2.out,HO.out,hb3⟩
              case measure=>simp [intOf];omega
            · have e1 : (f+c == (k : Int))=false:=by simpa using h1
              clear hon
              go_wp2_with fail
              go_quiet (fail)
              go_wp2_with (at_builtin;refine wpList_append_own _ rfl _ _ 115 rfl w.heap.size 172 i0 (.agg #[.int .i64 0,.int .i64 0,.int .i64 0]) 3 24 Tryz.underlying115 hi hz0 hz1 hz2 rfl (by decide) _ _ _ rfl (OWN.out _ _) ⟨wr.heap.size,0,none⟩ 1 1 (zak ((k : Int),1,z)) rfl rfl ?c1 ?c2 ?c3 ?c4 ?c5 ?_)
              case c1=>exact zeq _ _ _
              case c2=>intro u hu;simp [zak] at hu;rcases hu with rfl | rfl | rfl <;> rfl
              case c3 => have hmx : (20 : Nat) <= maxLen := by unfold maxLen;omega
                         omega
              case c4=>omega
              case c5=>have:=hb.size;simp;omega
              intro v' w3 hown' hgrow hnil;have own3 : w3.ownsRow w.heap.size 172 3 v' ((pre ++ [(f,c,p)]) ++ [((k : Int),1,z)]).length (((pre ++ [(f,c,p)]) ++ [((k : Int),1,z)]).flatMap zak):=by simpa using hown'
              obtain ⟨g',cp',hv'⟩ : ∃ g' cp',v' = .slice (some ⟨g',0,none⟩) ((pre ++ [(f,c,p)]) ++ [((k : Int),1,z)]).length cp':=by
                rcases own3.2 with ⟨e,_⟩ | ⟨g',cp',_,e,_⟩
                · exact absurd e hnil
                · exact ⟨g',cp',e⟩
              have hb3 : Below w.heap.size w w3:=(za3 (show Below w.heap.size w (wr.drewN _) from ⟨hb.os,hb.tape,hb.output,hb.size,hb.block⟩)).grown hgrow (by have:=hb.size;simp;omega) (fun q hq=>(OWNL.out q hq));subst hv';have HO : Hid _:=own3;clear hown' hgrow hnil own3 OWN
              go_wp2_with fail
              go_roundw
              case rel=>exact ⟨k+1,g',cp',_,by omega,by go_num,by simp,HN2.out,HO.out,hb3⟩
              case measure=>simp [intOf];omega
    · obtain rfl : k=16:=by omega
      have HO : Hid (wr.ownsRow w.heap.size 172 3 (.slice (some ⟨g,0,none⟩) acc.length cp) (mapOf l).length ((mapOf l).flatMap zak)):=by rw [Hid,HF.out,<- HACC.out];exact own
      clear own hacc
      go_wp2_with fail
      go_ret;exact ⟨_,rfl,HO.out,by simp,hb⟩
end Go.Proofs.YtfkkapdofjhgpaaGreatDoor
namespace Go.Proofs.YtfkkapdofjhgpaaGreatDoor
open Go.RowKit
set_option linter.unusedVariables false
set_option maxRecDepth 100000
def zdr (rs : List (Int × Int × Int)) (sz : Int) : Bool:=match rs.getLast? with
  | none=>true
  | some r=>decide (r.1+r.2.1<=sz)
def bookOk (nm : ByteArray) (sz : Int) (rs : List (Int × Int × Int)) (ep : Int) : Bool :=
  Nums.nameB nm.data.toList && (decide (1<=sz) && decide (sz<=16)) && (decide (0<=ep) && decide (ep<=1000)) && mapOk rs && zdr rs sz
theorem zsu (rs : List (Int × Int × Int)) (sz : Int) (k : Nat) (h : rs.length=k+1) : zdr rs sz=decide ((rs[k]'(by omega)).1+(rs[k]'(by omega)).2.1<=sz):=by
  have : rs.getLast? = some (rs[k]'(by omega)):=by rw [List.getLast?_eq_getElem?,show rs.length - 1=k by omega,List.getElem?_eq_getElem]
  rw [zdr,this]
theorem zyk (rs : List (Int × Int × Int)) (h : mapOk rs=true) (k : Nat) (hk : k < rs.length) : 0<=rs[k].1/\1<=rs[k].2.1/\rs[k].1+rs[k].2.1<=16:=by
  have:=zet rs 0 none (zcq h) (Int.le_refl _) rs[k] (List.getElem_mem hk)
  omega
structure Bk where
  nm : ByteArray
  sz : Int
  m : Value
  rs : List (Int × Int × Int)
  fx : Bool
  ep : Int
def bookC (b : Bk) : List Value:=[.string b.nm,.int .i64 b.sz,b.m,.bool b.fx,.int .i64 b.ep]
theorem zae (b : Bk) : (bookC b).length=5:=rfl
structure ReadsB (B : Nat) (w : World) (v : Value) (bs : List Bk) : Prop where
  row : ReadsR 5 bookC B w v bs
  maps : ∀ b ∈ bs,ReadsR 3 zak B w b.m b.rs
theorem ReadsB.below {B : Nat} {w w' : World} {v : Value} {bs : List Bk} (h : ReadsB B w v bs) (k : Below B w w') : ReadsB B w' v bs:=⟨h.row.below k,fun b hb=>(h.maps b hb).below k⟩
theorem ReadsB.mono {B B' : Nat} {w : World} {v : Value} {bs : List Bk} (h : ReadsB B w v bs) (k : B<=B') : ReadsB B' w v bs:=⟨h.row.mono k,fun b hb=>(h.maps b hb).mono k⟩
def newOk (nm : ByteArray) (sz : Int) : Bool:=Nums.nameB nm.data.toList && (decide (1<=sz) && decide (sz<=16))
def newName (nm : ByteArray) (sz : Int) : ByteArray:=if newOk nm sz=true then nm else ByteArray.empty
def newSize (nm : ByteArray) (sz : Int) : Int:=if newOk nm sz=true then sz else 0
def zbe (n : ByteArray) : List ByteArray->Nat->Int
  | [],_=>-1
  | x :: t,k=>if x=n then (k : Int) else zbe n t (k+1)
def zag (bs : List Bk) (n : ByteArray) : Int:=zbe n (bs.map Bk.nm) 0
theorem zsb (bs : List Bk) (n : ByteArray) (k : Nat) (hk : k < bs.length) : zbe n ((bs.map Bk.nm).drop k) k=if bs[k].nm=n then (k : Int) else zbe n ((bs.map Bk.nm).drop (k+1)) (k+1):=by
  rw [List.drop_eq_getElem_cons (by simpa using hk),zbe];simp
theorem zos (bs : List Bk) (n : ByteArray) (k : Nat) (hk : ¬ k < bs.length) : zbe n ((bs.map Bk.nm).drop k) k = -1:=by
  rw [List.drop_of_length_le (by simp;omega),zbe]
theorem zkt (n : ByteArray) (l : List ByteArray) (k : Nat) : zbe n l k = -1\/((k : Int)<=zbe n l k/\zbe n l k < k+l.length/\l[(zbe n l k).toNat - k]? = some n):=by
  induction l generalizing k with
  | nil=>exact .inl rfl
  | cons x t ih =>
    rw [zbe]
    split
    · rename_i h
      right
      subst h;simp
      omega
    · rcases ih (k+1) with h | ⟨h1,h2,h3⟩
      · exact .inl h
      · right
        refine ⟨by omega,by simp;omega,?_⟩;rw [show (zbe n t (k+1)).toNat - k=(zbe n t (k+1)).toNat - (k+1)+1 by omega,List.getElem?_cons_succ];exact h3
theorem zqw (n : ByteArray) (l : List ByteArray) (k j : Nat) (h : l[j]? = some n) : (k : Int)<=zbe n l k/\zbe n l k<=k+j:=by
  induction l generalizing k j with
  | nil=>simp at h
  | cons x t ih =>
    rw [zbe]
    split
    · omega
    · rename_i hx
      match j,h with
      | 0,h=>simp at h;exact absurd h hx
      | j+1,h =>
        have:=ih (k+1) j (by simpa using h)
        omega
end Go.Proofs.YtfkkapdofjhgpaaGreatDoor
namespace Go.Proofs.YtfkkapdofjhgpaaGreatDoor
open Nums
set_option linter.unusedVariables false
set_option maxRecDepth 100000
structure Oq where
  k : Int
  nm : ByteArray
  ot : ByteArray
  at_ : Int
  va : Int
  ep : Int
def Oq.zero : Oq:=⟨0,ByteArray.empty,ByteArray.empty,0,0,0⟩
def kOther (k : Int) : Bool:=decide (k=4) || decide (k=5)
def kAt (k : Int) : Bool:=decide (k=2) || decide (k=3) || decide (k=9)
def kSize (k : Int) : Bool:=decide (k=1) || decide (k=7)
def kEpoch (k : Int) : Bool:=decide (k=2) || decide (k=3) || decide (k=6) || decide (k=7)
def inB (x lo hi : Int) : Bool:=decide (lo<=x) && decide (x<=hi)
def valOk (k va : Int) : Bool:=if kSize k=true then inB va 1 16 else if k=2 then inB va 0 999 else decide (va=0)
def opOk (o : Oq) : Bool :=
  nameB o.nm.data.toList && inB o.k 1 9 && (kOther o.k == decide (o.ot.size ≠ 0)) && (!kOther o.k || nameB o.ot.data.toList) && (kAt o.k || decide (o.at_=0)) && inB o.at_ 0 255 && (kEpoch o.k || decide (o.ep=0)) && inB o.ep 0 1000 && valOk o.k o.va
theorem inB_iff (x lo hi : Int) : inB x lo hi=true ↔ lo<=x/\x<=hi:=by simp [inB]
theorem zd1 (s : ByteArray) (h : nameB s.data.toList=true) : 1<=s.size/\s.size<=4:=by
  simp only [nameB,Bool.and_eq_true,decide_eq_true_eq] at h;have e : s.data.toList.length=s.size:=by simp
  omega
theorem zkl (o : Oq) (h : opOk o=true) : (1<=o.k/\o.k<=9)/\(1<=o.nm.size/\o.nm.size<=4)/\o.ot.size<=4/\(0<=o.at_/\o.at_<=255)/\(0<=o.va/\o.va<=999)/\(0<=o.ep/\o.ep<=1000):=by
  simp only [opOk,Bool.and_eq_true,inB_iff] at h;obtain ⟨⟨⟨⟨⟨⟨⟨⟨h1,h2⟩,h3⟩,h4⟩,h5⟩,h6⟩,h7⟩,h8⟩,h9⟩:=h;refine ⟨h2,zd1 _ h1,?_,h6,?_,h8⟩
  · cases hk : kOther o.k
    · rw [hk] at h3
      simp at h3;have : o.ot.size=0:=by rw [h3];rfl
      omega
    · rw [hk] at h4
      simp at h4;exact (zd1 _ h4).2
  · unfold valOk at h9
    split at h9
    · rw [inB_iff] at h9;omega
    · split at h9
      · rw [inB_iff] at h9;omega
      · simp at h9;omega
theorem zot {a b : ByteArray} (h : a.data.toList=b.data.toList) : a=b:=by
  cases a;cases b;simp at h;rw [h]
end Go.Proofs.YtfkkapdofjhgpaaGreatDoor
namespace Go.Proofs.YtfkkapdofjhgpaaGreatDoor
def zcc (c p : Int) : Bool:=(decide (0<=c) && decide (c<=400)) && (decide (0<=p) && decide (p<=999)) && !(decide (c=0) && !decide (p=0))
theorem cellOk_iff (c p : Int) : zcc c p=true ↔ 0<=c/\c<=400/\0<=p/\p<=999/\(c=0->p=0):=by
  simp only [zcc,Bool.and_eq_true,decide_eq_true_eq,Bool.not_eq_true',Bool.and_eq_false_iff,decide_eq_false_iff_not,Bool.not_eq_false']
  constructor
  · rintro ⟨⟨⟨h1,h2⟩,h3,h4⟩,h5⟩
    refine ⟨h1,h2,h3,h4,fun h=>?_⟩;rcases h5 with h5 | h5
    · exact absurd h h5
    · exact h5
  · rintro ⟨h1,h2,h3,h4,h5⟩
    refine ⟨⟨⟨h1,h2⟩,h3,h4⟩,?_⟩;by_cases h : c=0
    · exact .inr (h5 h)
    · exact .inl h
def poolOk (cs ps : List Int) : Bool:=decide (1<=cs.length/\cs.length<=24/\ps.length=cs.length/\∀ j,j < cs.length->zcc (cs.getD j 0) (ps.getD j 0)=true)
theorem poolOk_iff (cs ps : List Int) : poolOk cs ps=true ↔ (1<=cs.length/\cs.length<=24/\ps.length=cs.length/\∀ j,j < cs.length->zcc (cs.getD j 0) (ps.getD j 0)=true):=by
  rw [poolOk,decide_eq_true_iff]
theorem ziy (cs ps : List Int) (h : ¬ (1<=cs.length/\cs.length<=24/\ps.length=cs.length/\∀ j,j < cs.length->zcc (cs.getD j 0) (ps.getD j 0)=true)) : poolOk cs ps=false:=by
  rw [poolOk,decide_eq_false_iff_not];exact h
def zaf (cs : List Int) : Nat:=cs.findIdx fun c=>decide (c=0)
theorem zi9 (cs : List Int) : zaf cs<=cs.length:=List.findIdx_le_length
theorem zei (cs : List Int) (h : zaf cs < cs.length) : cs.getD (zaf cs) 0=0:=by
  have:=List.findIdx_getElem (p:=fun c=>decide (c=(0 : Int))) (xs:=cs) (w:=h);rw [List.getD_eq_getElem?_getD,List.getElem?_eq_getElem h];exact of_decide_eq_true this
theorem ziz (cs : List Int) (j : Nat) (h : j < zaf cs) : cs.getD j 0 ≠ 0:=by
  have hl:=zi9 cs;have:=List.not_of_lt_findIdx (p:=fun c=>decide (c=0)) (xs:=cs) h;rw [List.getD_eq_getElem?_getD,List.getElem?_eq_getElem (by omega)]
  simpa using this
theorem zia (cs : List Int) (k : Nat) (h : k < cs.length) (h0 : cs.getD k 0=0) (hb : ∀ j,j < k->cs.getD j 0 ≠ 0) : zaf cs=k:=by
  have h1 : ¬ zaf cs < k:=fun q=>hb _ q (zei cs (by omega))
  have h2 : ¬ k < zaf cs:=fun q=>ziz cs k q h0
  omega
theorem zgl (cs : List Int) (hb : ∀ j,j < cs.length->cs.getD j 0 ≠ 0) : zaf cs=cs.length:=by
  have h1 : ¬ zaf cs < cs.length:=fun q=>hb _ q (zei cs q)
  have:=zi9 cs
  omega
def tookC (cs : List Int) : List Int:=if zaf cs < cs.length then cs.set (zaf cs) 1 else cs
def tookP (cs ps : List Int) (v : Int) : List Int:=if zaf cs < cs.length then ps.set (zaf cs) v else ps
def tookAt (cs : List Int) : Int:=if zaf cs < cs.length then (zaf cs : Int) else -1
def zao (n : Int) : (List Int × List Int) × Bool :=
  if 1<=n/\n<=24 then ((List.replicate n.toNat 0,List.replicate n.toNat 0),true) else (([],[]),false)
def takenPage (cs ps : List Int) (v : Int) : (List Int × List Int) × Int :=
  if poolOk cs ps=true then (if zaf cs < cs.length/\0<=v/\v<=999 then ((cs.set (zaf cs) 1,ps.set (zaf cs) v),(zaf cs : Int)) else ((cs,ps),-1)) else (([],[]),-1)
def zas (cs : List Int) (at_ : Int) : Int:=if 0<=at_/\at_ < cs.length then cs.getD at_.toNat 0 else 0
def shared (cs ps : List Int) (at_ : Int) : (List Int × List Int) × Bool :=
  if poolOk cs ps=true then (if 1<=zas cs at_/\zas cs at_ < 400 then ((cs.set at_.toNat (zas cs at_+1),ps),true) else ((cs,ps),false)) else (([],[]),false)
def dropped (cs ps : List Int) (at_ : Int) : (List Int × List Int) × Bool :=
  if poolOk cs ps=true then (if 1<=zas cs at_ then ((cs.set at_.toNat (zas cs at_ - 1),if zas cs at_=1 then ps.set at_.toNat 0 else ps),true) else ((cs,ps),false)) else (([],[]),false)
def zyy (cs : List Int) : Nat:=cs.countP fun c=>decide (c=0)
def zz5 (cs ps : List Int) : Int:=if poolOk cs ps=true then (zyy cs : Int) else -1
theorem ze9 (cs : List Int) (k : Nat) (h : k < cs.length) : cs.getD k 0=cs[k]:=by
  rw [List.getD_eq_getElem?_getD,List.getElem?_eq_getElem h];rfl
theorem zd2 (cs : List Int) (k j : Nat) (x : Int) (h : k < cs.length) : (cs.set k x).getD j 0=if k=j then x else cs.getD j 0:=by
  rw [List.getD_eq_getElem?_getD,List.getElem?_set,List.getD_eq_getElem?_getD];by_cases e : k=j
  · subst e;simp [h]
  · simp [e]
theorem zib (cs : List Int) (k : Nat) : cs.set k (cs.getD k 0)=cs:=by
  apply List.ext_getElem? 
  intro j;rw [List.getElem?_set];by_cases e : k=j
  · subst e
    by_cases h : k < cs.length
    · simp [h]
    · simp [h]
  · simp [e]
theorem zeu (cs : List Int) (k : Nat) (h : k < cs.length) : zas cs k=cs.getD k 0:=by
  unfold zas;rw [if_pos (by omega),Int.toNat_natCast]
theorem zjm (cs : List Int) (at_ : Int) (h : 1<=zas cs at_) : ∃ k : Nat,at_=k/\k < cs.length/\zas cs at_=cs.getD k 0:=by
  unfold zas at h ⊢
  split at h
  · next q=>exact ⟨at_.toNat,by omega,by omega,by rw [if_pos q]⟩
  · omega
end Go.Proofs.YtfkkapdofjhgpaaGreatDoor
namespace Go.Proofs.YtfkkapdofjhgpaaGreatDoor
open Go.RowKit
set_option linter.unusedVariables false
set_option maxRecDepth 100000
def pageOf (rs : List (Int × Int × Int)) (place : Int) : Int:=if mapOk rs=true/\0<=place/\place<=15 then (za7 rs).getD place.toNat 0 else -1
def mapped (rs : List (Int × Int × Int)) (place page : Int) : List (Int × Int × Int) × Bool :=
  if mapOk rs=true then (if (0<=place/\place<=15)/\-1<=page/\page<=23 then (mapOf ((za7 rs).set place.toNat page),true) else (rs,false)) else ([],false)
def cutAt (l : List Int) (n : Int) : List Int:=(List.range 16).map fun k : Nat=>if (k : Int) < n then l.getD k 0 else -1
def belowM (rs : List (Int × Int × Int)) (size : Int) : List (Int × Int × Int):=if mapOk rs=true then mapOf (cutAt (za7 rs) size) else []
def pagesOf (rs : List (Int × Int × Int)) : List Int:=if mapOk rs=true then (za7 rs).filter (fun p=>decide (0<=p)) else []
theorem zg4 (l : List Int) (k j : Nat) (x : Int) (h : k < l.length) : (l.set k x).getD j 0=if k=j then x else l.getD j 0:=by
  rw [List.getD_eq_getElem?_getD,List.getElem?_set,List.getD_eq_getElem?_getD];by_cases e : k=j
  · subst e;simp [h]
  · simp [e]
theorem zn7 (rs : List (Int × Int × Int)) (h : mapOk rs=true) (k : Nat) (hk : k < 16) (page : Int) (hp : -1<=page/\page<=23) : ∀ j,j < 16->-1<=((za7 rs).set k page).getD j 0/\((za7 rs).set k page).getD j 0<=23:=fun j hj=>by
  rw [zg4 _ _ _ _ (by rw [zac];exact hk)];by_cases e : k=j
  · rw [if_pos e];exact hp
  · rw [if_neg e];exact zbg rs h j hj
theorem zd3 (w : World) : (w.alloc (.cells #[] 172)).ownsRow w.heap.size 172 3 (.slice (some ⟨w.heap.size,0,none⟩) 0 0) 0 []:=World.ownsRow_lit w #[] 0 (Nat.le_refl _) (Nat.zero_le _) rfl
theorem zj0 {P : Program} (w : World) (base : Nat) (t ty e : TypeId) (i : TypeInfo) (z : Value) (size bytes : Nat) (ht : P.underlying t=some (.slice e)) (hi : P.info? e=some i) (hz : i.zero=some z)
    (hsize : i.size=size) (hby : i.bytes=bytes) (hzs : z.cells.size=size) (hsz : 0 < size)
    (v : Value) (n : Nat) (xs : List Value) (hown : w.ownsRow base e size v n xs)
    (a : Addr) (m c : Nat) (news : List Value) (hl : news.length=m * size) (hnews : ∀ j u,news[j]? = some u->w.cell? (a.add j)=some u) (h1 : ∀ u ∈ news,u.oneCell'=true)
    (h63 : n+m<=maxLen) (hbytes : (n+m) * bytes<=140737488355328) (hbase : base<=w.heap.size) :
    ∃ v' w',(Builtin.append_ #[t,t] ty #[v,.slice (some a) m c]).run P w = .ok v' w'/\w'.ownsRow base e size v' (n+m) (xs ++ news)/\w.grownBy w' v.ownBlock/\(v' = .slice none 0 0 ↔ v = .slice none 0 0/\m=0)/\∀ k,v'.ownBlock=some k->v.ownBlock=some k\/w.heap.size<=k:=by
  rcases hown.2 with ⟨rfl,rfl⟩ | ⟨g,cap,cur,rfl,hbg,hg,hnc,hcm,hcs,htake⟩
  · have hx : xs = []:=List.eq_nil_of_length_eq_zero (by simpa using hown.1)
    subst hx;obtain ⟨v',w',hr,ho,hg,hn⟩:=run_append_own (P:=P) w w.heap.size t ty e i z size bytes ht hi hz hsize hby hzs hsz (.slice none 0 0) 0 [] (World.ownsRow_nil _ _ _ _) a m c news hl hnews h1 h63 hbytes (Nat.le_refl _);exact ⟨v',w',hr,zah ho hbase,hg,hn,fun k hk=>.inr (ho.lt k hk).1⟩
  · by_cases hroom : n+m<=cap
    · obtain ⟨w',hr,ho,hg'⟩:=run_append_fits (P:=P) w base t ty e i size ht hi hsize g n cap xs hown a m c news hl hnews h1 hroom
      exact ⟨_,w',hr,ho,hg',by simp,fun k hk=>.inl (by simpa [Value.ownBlock] using hk)⟩
    · obtain ⟨v',w',hr,ho,hg',hn⟩:=zge (P:=P) w w.heap.size t ty e i z size bytes ht hi hz hsize hby hzs ⟨g,0,none⟩ n cap xs hown.1 (hown.cells (g:=g) rfl) a m c news hl hnews (by omega) h63 hbytes (Nat.le_refl _)
      exact ⟨v',w',hr,zah ho hbase,⟨hg'.os,hg'.tape,hg'.output,hg'.size,fun k hk _=>hg'.block k hk (by simp)⟩,by simp [hn],fun k hk=>.inr (ho.lt k hk).1⟩
theorem zhj {P : Program} {w : World} {ops : Array Oper} {rest : List Oper} {o : Oper} {a : Act} {Q : Exit->Act->World->Prop} (hgd : o.guard=none) (s x : Operand) (t : TypeId)
    (ho : o.op = .call { callee:=.builtin .append,args:=#[s,x],argTypes:=#[t,t] })
    (base : Nat) (e : TypeId) (i : TypeInfo) (z : Value) (size bytes : Nat) (ht : P.underlying t=some (.slice e)) (hi : P.info? e=some i) (hz : i.zero=some z)
    (hsize : i.size=size) (hby : i.bytes=bytes) (hzs : z.cells.size=size) (hsz : 0 < size)
    (v : Value) (n : Nat) (xs : List Value) (hs : a.eval s=v) (hown : w.ownsRow base e size v n xs)
    (ad : Addr) (m c : Nat) (news : List Value) (hx : a.eval x = .slice (some ad) m c) (hl : news.length=m * size) (hnews : ∀ j u,news[j]? = some u->w.cell? (ad.add j)=some u) (h1 : ∀ u ∈ news,u.oneCell'=true)
    (h63 : n+m<=maxLen) (hbytes : (n+m) * bytes<=140737488355328) (hbase : base<=w.heap.size)
    (h : ∀ v' w',w'.ownsRow base e size v' (n+m) (xs ++ news)->w.grownBy w' v.ownBlock->(v' = .slice none 0 0 ↔ v = .slice none 0 0/\m=0)->(∀ k,v'.ownBlock=some k->v.ownBlock=some k\/w.heap.size<=k)->wpList P ops Q rest (a.put o.dst v') w') : wpList P ops Q (o :: rest) a w :=
  wpList_plain hgd fun K hK=>by
    obtain ⟨v',w',hr,h2,h3,h4,h5⟩:=zj0 (P:=P) w base t o.type e i z size bytes ht hi hz hsize hby hzs hsz v n xs hown ad m c news hl hnews h1 h63 hbytes hbase;have hKK:=hK _ _ (h v' w' h2 h3 h4 h5);unfold Oper.wp execOp;simp only [ho,resolve,invoke,builtin,Sem.run_bind,Sem.run_pure,Result.andThen_ok,List.map_toArray,List.map_cons,List.map_nil,hs,hx,hr];exact hKK
end Go.Proofs.YtfkkapdofjhgpaaGreatDoor
