import Derived.Test.YtfkkapdofjhgpaaGreatDoorM02
import Derived.Test.YtfkkapdofjhgpaaGreatDoorM04
import Derived.Test.YtfkkapdofjhgpaaGreatDoorM05
import Derived.Test.YtfkkapdofjhgpaaGreatDoorM27
set_option maxHeartbeats 12800000
namespace Go.Proofs.YtfkkapdofjhgpaaGreatDoor
open Go.RowKit
set_option linter.unusedVariables false
set_option maxRecDepth 100000
def zoe (k : Nat) : List Int:=List.replicate k (-1) ++ List.replicate (16 - k) 0
theorem zu3 (k : Nat) (h : k < 16) : (zoe k).set k (-1)=zoe (k+1):=by
  have h16 : k=0\/k=1\/k=2\/k=3\/k=4\/k=5\/k=6\/k=7\/k=8\/k=9\/k=10\/k=11\/k=12\/k=13\/k=14\/k=15:=by omega
  rcases h16 with rfl | rfl | rfl | rfl | rfl | rfl | rfl | rfl | rfl | rfl | rfl | rfl | rfl | rfl | rfl | rfl <;> rfl
def zeros16 : Array Value:=#[.int .i64 0,.int .i64 0,.int .i64 0,.int .i64 0,.int .i64 0,.int .i64 0,.int .i64 0,.int .i64 0,.int .i64 0,.int .i64 0,.int .i64 0,.int .i64 0,.int .i64 0,.int .i64 0,.int .i64 0,.int .i64 0]
theorem zq0 (k : Nat) (h : k<=16) : (zoe k).length=16:=by simp [zoe];omega
theorem zrv : (Tryz.prog.info? 302).map (·.size)=some 16:=by kernel_rfl
theorem zdj (v : Value) (rs : List (Int × Int × Int)) (w : World) (hok : mapOk rs=true) (r : ReadsR 3 zak w.heap.size w v rs) :
    Calls Tryz.prog 277 #[v] w fun e w'=>∃ c : Array Value,e = .returned (.agg c)/\c.toList=(za7 rs).map (Value.int .i64)/\Below w.heap.size w w':=by
  obtain ⟨o,cap,rfl,hm,hc,-⟩:=r;have HC : Hid _:=zcn hc;have HM : Hid _:=zet rs 0 none (zcq hok) (by omega);unfold maxLen at hm;clear hc hok
  go_enter Tryz.func277,Tryz.ntmps277
  go_wp2_with fail
  have own0 : ((w.alloc (.cells zeros16 302)).alloc (.cells zeros16 302)).ownsRow (w.heap.size+1) 302 1 (.slice (some ⟨w.heap.size+1,0,none⟩) 16 16) 16 ((zoe 0).map (Value.int .i64)):=by
    have h:=World.ownsRow_lit (e:=302) (size:=1) (base:=w.heap.size+1) (w.alloc (.cells zeros16 302)) zeros16 16 (by simp) (by unfold maxLen;omega) rfl;have e0 : (w.alloc (.cells zeros16 302)).heap.size=w.heap.size+1:=by simp
    rw [e0] at h;exact h
  have k0 : ((w.alloc (.cells zeros16 302)).alloc (.cells zeros16 302)).heap[w.heap.size]? = some (.cells zeros16 302 (0,0)) :=
    ((za3 (o:=.cells zeros16 302) (Below.refl (w.alloc (.cells zeros16 302)).heap.size (w.alloc (.cells zeros16 302)))).block w.heap.size (by simp)).trans (heap_alloc_new w _)
  have d0 : Below w.heap.size w ((w.alloc (.cells zeros16 302)).alloc (.cells zeros16 302)):=za3 (za3 (Below.refl _ _))
  go_loopw [9] (fun i wr=>∃ (k : Nat),k<=16/\i = .int .i64 k/\wr.ownsRow (w.heap.size+1) 302 1 (.slice (some ⟨w.heap.size+1,0,none⟩) 16 16) 16 ((zoe k).map (Value.int .i64))/\wr.heap[w.heap.size]? = some (.cells zeros16 302 (0,0))/\Below w.heap.size w wr) (fun i _=>16 - (intOf i).toNat)
  case atStart=>exact ⟨0,Nat.zero_le _,rfl,own0,k0,d0⟩
  case round =>
    clear own0 k0 d0;obtain ⟨k,hk,rfl,own,kA,hb⟩:=hrel;by_cases hlt : k < 16
    · have hk1 : (k : Int) < 16:=by omega
      have hk0 : (0 : Int)<=(k : Int):=by omega
      have t0:=own.cellAt k (by omega);have t1:=own.frozenAt k;have hnl:=zq0 k hk;rw [List.getElem?_map,List.getElem?_eq_getElem (show k < (zoe k).length by omega)] at t0;simp only [Option.map_some] at t0;obtain ⟨hst,hgr⟩:=own.stored k (.int .i64 (-1));rw [<- List.map_set,zu3 k hlt] at hst;have kA':=(hgr.block w.heap.size (za2 kA) (by simp)).trans kA;have hbf : Below w.heap.size w (wr.setCell ⟨w.heap.size+1,k,none⟩ (.int .i64 (-1))):=zb8 (p:=⟨w.heap.size+1,k,none⟩) hb (by simp) _;have HO : Hid _:=And.intro hst (And.intro kA' hbf);generalize (zoe k)[k]=y at t0;clear hst hgr kA' hbf own hnl kA
      go_wp2_with fail
      go_roundw
      case rel=>exact ⟨k+1,by omega,by go_num,HO.out.1,HO.out.2.1,HO.out.2.2⟩
      case measure=>simp [intOf];omega
    · obtain rfl : k=16:=by omega
      have e16 : zoe 16=none16:=rfl;rw [e16] at own
      go_wp2_with fail
      go_loopw [17] (fun i wr2=>∃ (q : Nat),q<=rs.length/\i = .int .i64 q/\wr2.ownsRow (w.heap.size+1) 302 1 (.slice (some ⟨w.heap.size+1,0,none⟩) 16 16) 16 (((rs.take q).foldl zc8 none16).map (Value.int .i64))/\wr2.heap[w.heap.size]? = some (.cells zeros16 302 (0,0))/\Below w.heap.size w wr2) (fun i _=>rs.length - (intOf i).toNat)
      case atStart=>exact ⟨0,Nat.zero_le _,rfl,own,kA,hb⟩
      case round =>
        clear own hb kA;obtain ⟨q,hq,rfl,own,kA,hb⟩:=hrel;by_cases hlt2 : q < rs.length
        · obtain ⟨g1,off,rfl,hg1,a0,a1,a2⟩:=HC.out q hlt2
          have hr:=HM.out rs[q] (List.getElem_mem hlt2);have HTF : Hid _:=zn6 rs q hlt2;have hl16 : ((rs.take q).foldl zc8 none16).length=16:=by rw [zg3];rfl
          generalize (rs.take q).foldl zc8 none16=L at own HTF hl16;generalize rs[q]=x at a0 a1 a2 hr HTF;obtain ⟨f,c,p⟩:=x;simp only at a0 a1 a2 hr;obtain ⟨F,rfl⟩:=Int.eq_ofNat_of_zero_le hr.1;obtain ⟨C,rfl⟩:=Int.eq_ofNat_of_zero_le (show 0<=c by omega);have HL : Hid (L.length=16):=hl16;replace a0:=(hb.cell (p:=⟨g1,off+q * 3,none⟩) hg1).trans a0;replace a1:=(hb.cell (p:=⟨g1,off+q * 3+1,none⟩) hg1).trans a1;replace a2:=(hb.cell (p:=⟨g1,off+q * 3+2,none⟩) hg1).trans a2;have own2 : (wr.alloc (.cells #[.int .i64 (F : Int),.int .i64 (C : Int),.int .i64 p] 172)).ownsRow (w.heap.size+1) 302 1 (.slice (some ⟨w.heap.size+1,0,none⟩) 16 16) 16 ((lay L F p 0).map (Value.int .i64)):=own.alloc _;have bsz:=(own.lt (w.heap.size+1) rfl).2;have kA2:=(Below.block (za3 (o:=.cells #[.int .i64 (F : Int),.int .i64 (C : Int),.int .i64 p] 172) (Below.refl wr.heap.size wr)) _ (za2 kA)).trans kA;have kB2:=heap_alloc_new wr (.cells #[.int .i64 (F : Int),.int .i64 (C : Int),.int .i64 p] 172);have hb2 : Below w.heap.size w (wr.alloc (.cells #[.int .i64 (F : Int),.int .i64 (C : Int),.int .i64 p] 172)):=za3 hb;have hbB : w.heap.size+1 < wr.heap.size:=bsz;clear hl16 own kA hb
          go_wp2_with fail
          generalize wr.alloc (.cells #[.int .i64 (F : Int),.int .i64 (C : Int),.int .i64 p] 172)=W5 at *;generalize wr.heap.size=nB at *
          go_loopw [23] (fun i wr3=>∃ (k : Nat),k<=C/\i = .int .i64 k/\wr3.ownsRow (w.heap.size+1) 302 1 (.slice (some ⟨w.heap.size+1,0,none⟩) 16 16) 16 ((lay L F p k).map (Value.int .i64))/\wr3.heap[w.heap.size]? = some (.cells zeros16 302 (0,0))/\wr3.heap[nB]? = some (.cells #[.int .i64 (F : Int),.int .i64 (C : Int),.int .i64 p] 172 (0,0))/\Below w.heap.size w wr3) (fun i _=>C - (intOf i).toNat)
          case atStart=>exact ⟨0,Nat.zero_le _,rfl,own2,kA2,kB2,hb2⟩
          case round =>
            clear own2 kA2 kB2 hb2;obtain ⟨k,hk2,rfl,own,kA,kB,hb⟩:=hrel;by_cases hlt3 : k < C
            · have hll : (lay L F p k).length=16:=by rw [zg2];exact HL.out
              have t0:=own.cellAt (F+k) (by omega);have t1:=own.frozenAt (F+k);rw [List.getElem?_map,List.getElem?_eq_getElem (show F+k < (lay L F p k).length by omega)] at t0;simp only [Option.map_some] at t0;obtain ⟨hst,hgr⟩:=own.stored (F+k) (.int .i64 (p+k));rw [<- List.map_set] at hst;have kA':=(hgr.block w.heap.size (za2 kA) (by simp)).trans kA;have kB':=(hgr.block nB (za2 kB) (by simp;omega)).trans kB;have hbf : Below w.heap.size w (wr.setCell ⟨w.heap.size+1,F+k,none⟩ (.int .i64 (p+k))):=zb8 (p:=⟨w.heap.size+1,F+k,none⟩) hb (by simp) _;have HO : Hid _:=And.intro hst (And.intro kA' (And.intro kB' hbf));obtain ⟨b0,b1,b2⟩:=cq3 kB;generalize (lay L F p k)[F+k]=y at t0;clear hst hgr kA' kB' hbf own hll kA kB;have hi0 : (0 : Int)<=(F : Int)+(k : Int):=by omega
              have hi1 : (F : Int)+(k : Int) < 16:=by omega
              have hw1 : IntKind.i64.wrap ((F : Int)+(k : Int))=(F : Int)+(k : Int):=by rw [IntKind.wrap_i64];omega
              have hw2 : IntKind.i64.wrap (p+(k : Int))=p+(k : Int):=by rw [IntKind.wrap_i64];omega
              have hw3 : ((F : Int)+(k : Int)).toNat=F+k:=by omega
              go_wp2_with fail
              go_roundw
              case rel=>exact ⟨k+1,by omega,by go_num,HO.out.1,HO.out.2.1,HO.out.2.2.1,HO.out.2.2.2⟩
              case measure=>simp [intOf];omega
            · obtain rfl : k=C:=by omega
              have e2 : ((rs.take (q+1)).foldl zc8 none16)=lay L F p k:=by rw [HTF.out];rfl
              rw [<- e2] at own;have HO : Hid _:=own;clear own e2
              go_wp2_with fail
              go_roundw
              case rel=>exact ⟨q+1,by omega,by go_num,HO.out,kA,hb⟩
              case measure=>simp [intOf];omega
        · have hfin : rs.take q=rs:=List.take_of_length_le (by omega)
          rw [hfin] at own;obtain ⟨cur,hcur,hcl⟩:=zn4 own;have hcs : cur.size=16:=by rw [<- Array.length_toList,hcl,List.length_map];exact zac rs
          have HCL : Hid (cur.toList=(za7 rs).map (Value.int .i64)):=hcl;have H1 : Hid (cur.all (·.oneCell')=true):=zep _ cur hcl;have HI : Hid ((Tryz.prog.info? 302).map (·.size)=some cur.size):=by rw [hcs];exact zrv
          have HZ : Hid (zeros16.size=cur.size):=by rw [hcs];rfl
          have HCUR : Hid _:=hcur;have HKA : Hid _:=kA;have hbS : Below w.heap.size w (wr.setRow w.heap.size cur):=hb.trans (zdq (Nat.le_refl _));have hrow:=zd0 (cs:=cur) kA;have HLD : Hid _:=run_loadVar_row (P:=Tryz.prog) _ w.heap.size 302 302 cur (0,0) _ hrow Tryz.underlying302 rfl HI.out;clear own hfin hcur hcl kA hcs hrow
          go_wp2_with (first | (with_reducible refine zgf rfl _ 302 rfl (w.heap.size+1) rfl cur 302 (0,0) HCUR.out _ Tryz.underlying302 rfl HI.out ?_) | (with_reducible refine zbt rfl _ _ 302 rfl w.heap.size rfl cur rfl zeros16 302 HKA.out HI.out HZ.out H1.out ?_))
          refine bodyPost_ret (v:=.agg cur) ?_ rfl ⟨cur,rfl,HCL.out,hbS⟩;simp [results,Tryz.results277,asAddr,Act.put,HLD.out]
end Go.Proofs.YtfkkapdofjhgpaaGreatDoor
namespace Go.Proofs.YtfkkapdofjhgpaaGreatDoor
open Go.RowKit
set_option linter.unusedVariables false
def zd8 (acc : List (Int × Int × Int)) (x : Int × Int × Int) : List (Int × Int × Int) :=
  match acc.getLast? with
  | none=>acc ++ [x]
  | some r=>if r.1+r.2.1=x.1/\r.2.2+r.2.1=x.2.2 then acc.dropLast ++ [(r.1,r.2.1+x.2.1,r.2.2)] else acc ++ [x]
def joinRuns (rs : List (Int × Int × Int)) : List (Int × Int × Int):=rs.foldl zd8 []
def zlz (r : Int × Int × Int) : Prop:=r.2.1=1/\0<=r.1/\r.1<=15/\0<=r.2.2/\r.2.2<=23
def zi3 (r : Int × Int × Int) : Prop:=0<=r.1/\1<=r.2.1/\r.1+r.2.1<=16/\0<=r.2.2/\r.2.2+r.2.1<=24
theorem zwb (x : Int × Int × Int) : zd8 [] x = [] ++ [x]:=rfl
theorem zsl (pre : List (Int × Int × Int)) (f c p f' c' p' : Int) (h : f+c=f'/\p+c=p') : zd8 (pre ++ [(f,c,p)]) (f',c',p')=pre ++ [(f,c+c',p)]:=by
  unfold zd8;rw [List.getLast?_concat];simp only;rw [if_pos h,List.dropLast_concat]
theorem zq1 (pre : List (Int × Int × Int)) (f c p f' c' p' : Int) (h : ¬ (f+c=f'/\p+c=p')) : zd8 (pre ++ [(f,c,p)]) (f',c',p')=(pre ++ [(f,c,p)]) ++ [(f',c',p')]:=by
  unfold zd8;rw [List.getLast?_concat];simp only;rw [if_neg h]
theorem zq2 (acc : List (Int × Int × Int)) (x : Int × Int × Int) (hx : zlz x) (h : ∀ r ∈ acc,zi3 r) : ∀ r ∈ zd8 acc x,zi3 r:=by
  obtain ⟨f',c',p'⟩:=x;have hw : zi3 (f',c',p'):=by obtain ⟨h1,h2,h3,h4,h5⟩:=hx;simp only at h1 h2 h3 h4 h5;unfold zi3;simp only;omega
  by_cases hA : acc = []
  · subst hA
    rw [zwb];intro r hr;simp at hr;subst hr;exact hw
  · obtain ⟨pre,⟨f,c,p⟩,rfl⟩:=znw acc hA
    by_cases hon : f+c=f'/\p+c=p'
    · rw [zsl _ _ _ _ _ _ _ hon]
      intro r hr;rcases List.mem_append.1 hr with hr | hr
      · exact h r (List.mem_append_left _ hr)
      · simp at hr
        subst hr;have h0:=h (f,c,p) (by simp);obtain ⟨h1,h2,h3,h4,h5⟩:=hx;obtain ⟨q1,q2,q3,q4,q5⟩:=h0;simp only at h1 h2 h3 h4 h5 q1 q2 q3 q4 q5;unfold zi3;simp only
        omega
    · rw [zq1 _ _ _ _ _ _ _ hon]
      intro r hr;rcases List.mem_append.1 hr with hr | hr
      · exact h r hr
      · simp at hr
        subst hr;exact hw
theorem zwc (acc : List (Int × Int × Int)) (x : Int × Int × Int) : (zd8 acc x).length<=acc.length+1:=by
  unfold zd8
  cases acc.getLast? with
  | none=>simp
  | some r=>simp only;split <;> simp <;> omega
theorem zkd (rs : List (Int × Int × Int)) (h : ∀ r ∈ rs,zlz r) (q : Nat) : ∀ r ∈ joinRuns (rs.take q),zi3 r:=by
  induction q with
  | zero=>intro r hr;simp [joinRuns] at hr
  | succ q ih =>
    by_cases hq : q < rs.length
    · rw [joinRuns,List.take_succ_eq_append_getElem hq,List.foldl_append]
      exact zq2 _ _ (h _ (List.getElem_mem hq)) ih
    · rw [List.take_of_length_le (by omega)]
      rw [List.take_of_length_le (by omega)] at ih;exact ih
theorem zof (rs : List (Int × Int × Int)) (q : Nat) : (joinRuns (rs.take q)).length<=q:=by
  induction q with
  | zero=>simp [joinRuns]
  | succ q ih =>
    by_cases hq : q < rs.length
    · rw [joinRuns,List.take_succ_eq_append_getElem hq,List.foldl_append]
      have:=zwc (joinRuns (rs.take q)) rs[q];simp only [List.foldl_cons,List.foldl_nil];unfold joinRuns at this ih
      omega
    · rw [List.take_of_length_le (by omega)] at ih ⊢
      omega
theorem zmt (rs : List (Int × Int × Int)) (q : Nat) (hq : q < rs.length) : joinRuns (rs.take (q+1))=zd8 (joinRuns (rs.take q)) rs[q]:=by
  rw [joinRuns,List.take_succ_eq_append_getElem hq,List.foldl_append];rfl
theorem zi4 {w3 : World} {acc : List (Int × Int × Int)} {x : Int × Int × Int} {v' : Value} {base n : Nat} (hn : n=acc.length) (h : w3.ownsRow base 172 3 v' (n+1) (acc.flatMap zak ++ zak x)) (hnil : v' ≠ .slice none 0 0) :
    ∃ g' cp',v' = .slice (some ⟨g',0,none⟩) (acc ++ [x]).length cp'/\w3.ownsRow base 172 3 (.slice (some ⟨g',0,none⟩) (acc ++ [x]).length cp') (acc ++ [x]).length ((acc ++ [x]).flatMap zak):=by
  subst hn;have own3 : w3.ownsRow base 172 3 v' (acc ++ [x]).length ((acc ++ [x]).flatMap zak):=by simpa using h
  rcases own3.2 with ⟨e,_⟩ | ⟨g',cp',cur,e,h2⟩
  · exact absurd e hnil
  · subst e
    exact ⟨g',cp',rfl,own3⟩
theorem zy7 {w : World} {base g cp : Nat} {pre : List (Int × Int × Int)} {f c p c2 : Int} (h : w.ownsRow base 172 3 (.slice (some ⟨g,0,none⟩) (pre ++ [(f,c,p)]).length cp) (pre ++ [(f,c,p)]).length ((pre ++ [(f,c,p)]).flatMap zak)) :
    (((w.setCell ⟨g,pre.length * 3,none⟩ (.int .i64 f)).setCell ⟨g,pre.length * 3+1,none⟩ (.int .i64 c2)).setCell ⟨g,pre.length * 3+2,none⟩ (.int .i64 p)).ownsRow base 172 3 (.slice (some ⟨g,0,none⟩) (pre ++ [(f,c2,p)]).length cp) (pre ++ [(f,c2,p)]).length ((pre ++ [(f,c2,p)]).flatMap zak):=by
  have e : ∀ x y : Int × Int × Int,(pre ++ [x]).set pre.length y=pre ++ [y]:=fun x y=>by simp
  have el : ∀ x y : Int × Int × Int,(pre ++ [x]).length=(pre ++ [y]).length:=fun x y=>by simp
  have h1:=zb2 zat h pre.length 0 (f,c,p) (f,c,p) (.int .i64 f) (by simp) (by omega) rfl;rw [e,Nat.add_zero] at h1;have h2:=zb2 zat h1 pre.length 1 (f,c,p) (f,c2,p) (.int .i64 c2) (by simp) (by omega) rfl;rw [e] at h2;have h3:=zb2 zat h2 pre.length 2 (f,c2,p) (f,c2,p) (.int .i64 p) (by simp) (by omega) rfl;rw [e] at h3
  rwa [el (f,c2,p) (f,c,p)] at h3 ⊢
set_option maxRecDepth 100000 in
theorem zrw (v : Value) (rs : List (Int × Int × Int)) (w : World) (hs : ∀ r ∈ rs,zlz r) (hl : rs.length<=16) (r : ReadsR 3 zak w.heap.size w v rs) :
    Calls Tryz.prog 287 #[v] w fun e w'=>∃ v' : Value,e = .returned v'/\w'.ownsRow w.heap.size 172 3 v' (joinRuns rs).length ((joinRuns rs).flatMap zak)/\v' ≠ .slice none 0 0/\Below w.heap.size w w':=by
  obtain ⟨i0,hi,hz0,hz1,hz2⟩:=info_parts Tryz.infoRun;obtain ⟨o,cap,rfl,hm,hc,-⟩:=r;have HC : Hid _:=zcn hc;have HS : Hid _:=hs;have HW : Hid (∀ q,∀ r ∈ joinRuns (rs.take q),zi3 r):=zkd rs hs;have HJL : Hid (∀ q,(joinRuns (rs.take q)).length<=q):=zof rs;have own0 : (w.alloc (.cells #[] 172)).ownsRow w.heap.size 172 3 (.slice (some ⟨w.heap.size,0,none⟩) 0 0) 0 []:=World.ownsRow_lit w #[] 0 (Nat.le_refl _) (Nat.zero_le _) rfl;have d0 : Below w.heap.size w (w.alloc (.cells #[] 172)):=za3 (Below.refl _ _);clear hc hm hs
  go_enter Tryz.func287,Tryz.ntmps287
  go_wp2_with fail
  go_loopw [3,10] (fun q i wr=>∃ (k g cp : Nat) (acc : List (Int × Int × Int)),k<=rs.length/\i = .int .i64 k/\q = .slice (some ⟨g,0,none⟩) acc.length cp/\acc=joinRuns (rs.take k)/\wr.ownsRow w.heap.size 172 3 (.slice (some ⟨g,0,none⟩) acc.length cp) acc.length (acc.flatMap zak)/\Below w.heap.size w wr) (fun _ i _=>rs.length - (intOf i).toNat)
  case atStart=>exact ⟨0,_,_,[],Nat.zero_le _,rfl,rfl,rfl,own0,d0⟩
  case round =>
    clear own0 d0;obtain ⟨k,g,cp,acc,hk,rfl,rfl,hacc,own,hb⟩:=hrel;by_cases hlt : k < rs.length
    · obtain ⟨g1,off,rfl,hg1,a0,a1,a2⟩:=HC.out k hlt
      have hsk:=HS.out rs[k] (List.getElem_mem hlt);have hwi:=HW.out k;rw [<- hacc] at hwi;have HNX : Hid (joinRuns (rs.take (k+1))=zd8 acc rs[k]):=by rw [Hid,zmt rs k hlt,hacc]
      have hfew : acc.length<=k:=by rw [hacc];exact HJL.out k
      replace a0:=(hb.cell (p:=⟨g1,off+k * 3,none⟩) hg1).trans a0;replace a1:=(hb.cell (p:=⟨g1,off+k * 3+1,none⟩) hg1).trans a1;replace a2:=(hb.cell (p:=⟨g1,off+k * 3+2,none⟩) hg1).trans a2;have HWI : Hid _:=hwi;clear hacc HC HS HW HJL hwi;generalize rs[k]=x at a0 a1 a2 hsk HNX;obtain ⟨f',c',p'⟩:=x;obtain ⟨s1,s2,s3,s4,s5⟩:=hsk;simp only at a0 a1 a2 s1 s2 s3 s4 s5;subst s1;have hg:=own.lt g rfl;have ownA : (wr.alloc (.cells #[.int .i64 f',.int .i64 1,.int .i64 p'] 172)).ownsRow w.heap.size 172 3 (.slice (some ⟨g,0,none⟩) acc.length cp) acc.length (acc.flatMap zak):=own.alloc _;have hbA : Below w.heap.size w (wr.alloc (.cells #[.int .i64 f',.int .i64 1,.int .i64 p'] 172)):=za3 hb;have kB:=heap_alloc_new wr (.cells #[.int .i64 f',.int .i64 1,.int .i64 p'] 172);have sB : wr.heap.size < (wr.alloc (.cells #[.int .i64 f',.int .i64 1,.int .i64 p'] 172)).heap.size:=by simp
      have hgB : g < wr.heap.size:=hg.2;clear own hb;by_cases hA : acc = []
      · have HN2 : Hid ([] ++ [(f',1,p')]=joinRuns (rs.take (k+1))):=by rw [Hid,HNX.out,hA];rfl
        subst hA
        go_wp2_with fail
        generalize wr.alloc (.cells #[.int .i64 f',.int .i64 1,.int .i64 p'] 172)=W5 at *;generalize wr.heap.size=nB at *;obtain ⟨q0,q1,q2⟩:=cq3 kB;have OWN : Hid (∀ (n : Nat) (o : Obj),((W5.drewN n).alloc o).ownsRow w.heap.size 172 3 (.slice (some ⟨g,0,none⟩) 0 cp) 0 []):=fun n o=>(za9 ownA (by exact ⟨rfl,rfl,rfl,Nat.le_refl _,fun _ _=>rfl⟩)).alloc o
        have OWNL : Hid (∀ q,(Value.slice (some ⟨g,0,none⟩) 0 cp).ownBlock=some q->w.heap.size<=q):=fun q hq=>(ownA.lt q hq).1
        clear ownA
        go_quiet (fail)
        go_wp2_with (at_builtin;refine wpList_append_own _ rfl _ _ 269 rfl w.heap.size 172 i0 (.agg #[.int .i64 0,.int .i64 0,.int .i64 0]) 3 24 Tryz.underlying269 hi hz0 hz1 hz2 rfl (by decide) _ _ _ rfl (OWN.out _ _) ⟨W5.heap.size,0,none⟩ 1 1 (zak (f',1,p')) rfl rfl ?c1 ?c2 ?c3 ?c4 ?c5 ?_)
        case c1=>exact zeq _ _ _
        case c2=>intro u hu;simp [zak] at hu;rcases hu with rfl | rfl | rfl <;> rfl
        case c3 => have hmx : (20 : Nat) <= maxLen := by unfold maxLen;omega
                   omega
        case c4=>omega
        case c5=>have:=hbA.size;simp;omega
        intro v' w9 hown' hgrow hnil;obtain ⟨g',cp',rfl,own9⟩:=zi4 (acc:=([] : List (Int × Int × Int))) rfl hown' (by simpa using hnil);have hb9 : Below w.heap.size w w9:=(za3 (show Below w.heap.size w (W5.drewN _) from ⟨hbA.os,hbA.tape,hbA.output,hbA.size,hbA.block⟩)).grown hgrow (by have:=hbA.size;simp;omega) (fun q hq=>OWNL.out q hq);have HO : Hid _:=own9;clear hown' hgrow hnil own9 OWN
        go_wp2_with fail
        go_roundw
        case rel=>exact ⟨k+1,g',cp',_,by omega,by go_num,by simp,HN2.out,HO.out,hb9⟩
        case measure=>simp [intOf];omega
      · obtain ⟨pre,⟨f,c,p⟩,rfl⟩:=znw acc hA
        have hbd:=HWI.out (f,c,p) (by simp);obtain ⟨b1,b2,b3,b4,b5⟩:=hbd;simp only at b1 b2 b3 b4 b5;have hpl : pre.length+1<=16:=by simp at hfew;omega
        have hlen : (pre ++ [(f,c,p)]).length=pre.length+1:=by simp
        have hw1 : IntKind.i64.wrap ((pre.length : Int)+1 - 1)=pre.length:=by rw [IntKind.wrap_i64];omega
        have hw2 : (pre.length : Int)+1 - 1=pre.length:=by omega
        have hw3 : IntKind.i64.wrap (pre.length : Int)=pre.length:=by rw [IntKind.wrap_i64];omega
        have hj0 : (0 : Int)<=(pre.length : Int):=by omega
        have hj1 : (pre.length : Int) < (pre.length : Int)+1:=by omega
        clear HWI hA
        go_wp2_with fail
        generalize wr.alloc (.cells #[.int .i64 f',.int .i64 1,.int .i64 p'] 172)=W5 at *;generalize wr.heap.size=nB at *;obtain ⟨⟨t0,t1,t2⟩,u0,u1,u2⟩:=zfp ownA pre.length (by simp);simp only [List.getElem_concat_length] at t0 t1 t2;have hgs : g < W5.heap.size:=by omega
        have hne:=BelowOf.any W5;have e0:=BelowOf.cell t0 hgs;have e1:=BelowOf.cell t1 hgs;have e2:=BelowOf.cell t2 hgs;have f0:=BelowOf.cell (za0 kB 0) sB;have f1:=BelowOf.cell (za0 kB 1) sB;have f2:=BelowOf.cell (za0 kB 2) sB;have mo:=zyh;by_cases hon : f+c=f'/\p+c=p'
        · have HN2 : Hid (pre ++ [(f,c+1,p)]=joinRuns (rs.take (k+1))):=by rw [Hid,HNX.out,zsl _ _ _ _ _ _ _ hon]
          have HA : ∀ q : BelowOf W5,Calls Tryz.prog 323 #[.agg #[.int .i64 f,.int .i64 c,.int .i64 p],.agg #[.int .i64 f',.int .i64 1,.int .i64 p']] q.w' fun e w'=>e = .returned (.bool true)/\Below q.w'.heap.size q.w' w':=fun q=>by have h:=zgc f c p f' 1 p' q.w' (by omega);rwa [decide_eq_true hon.1,decide_eq_true hon.2] at h
          refine zad (by kernel_rfl) (by kernel_rfl) ?_
          repeat (go_big_quiet_step ((first | (go_at_call 323;exact zb1 (HA _)) | rfl)))
          refine wpQuiet_nil ?_;intro w7 hw7;obtain ⟨⟨wx,cx⟩,hwx⟩:=hw7;have b7 : Below W5.heap.size W5 w7:=by rw [hwx];exact cx
          have own7:=za9 ownA b7;have kB7:=(b7.block nB sB).trans kB;have sB7:=Nat.lt_of_lt_of_le sB b7.size;have hb7:=za1 hbA b7;clear hwx cx wx hne e0 e1 e2 f0 f1 f2 HA mo b7 ownA kB sB hbA t0 t1 t2 u0 u1 u2;obtain ⟨⟨t0,t1,t2⟩,u0,u1,u2⟩:=zfp own7 pre.length (by simp);simp only [List.getElem_concat_length] at t0 t1 t2;obtain ⟨q0,q1,q2⟩:=cq3 kB7;have mj:=zu2;have hjc : (0 : Int)<=c/\c<=16/\(0 : Int)<=1/\(1 : Int)<=16:=by omega
          have hpx : pre.length < (pre ++ [(f,c,p)]).length:=by simp
          go_wp2_with fail
          go_region_law (go_simp;go_at_call 325;refine (zly f c p f' 1 p' _ hjc).mono ?_;rintro e w8 ⟨rfl,b8⟩;have b8' : Below w7.heap.size w7 w8:=⟨b8.os,b8.tape,b8.output,b8.size,b8.block⟩;have own8:=za9 own7 b8';obtain ⟨⟨x0,x1,x2⟩,y0,y1,y2⟩:=zfp own8 pre.length hpx;have hb8:=za1 hb7 b8';clear b8 b8';dsimp only)
          all_goals
            have HO : Hid _:=And.intro (zy7 (c2:=c+1) own8) (zb8 (p:=⟨g,pre.length * 3+2,none⟩) (zb8 (p:=⟨g,pre.length * 3+1,none⟩) (zb8 (p:=⟨g,pre.length * 3,none⟩) hb8 hg.1 (.int .i64 f)) hg.1 (.int .i64 (c+1))) hg.1 (.int .i64 p));clear own8 own7 x0 x1 x2 y0 y1 y2 t0 t1 t2 u0 u1 u2 q0 q1 q2 mj kB7 hb8 hb7
            go_wp2_with fail
            go_roundw
            case rel=>exact ⟨k+1,g,cp,pre ++ [(f,c+1,p)],by omega,by go_num,by simp,HN2.out,HO.out.1,HO.out.2⟩
            case measure=>simp [intOf];omega
        · have HN2 : Hid ((pre ++ [(f,c,p)]) ++ [(f',1,p')]=joinRuns (rs.take (k+1))):=by rw [Hid,HNX.out,zq1 _ _ _ _ _ _ _ hon]
          have HA : ∀ q : BelowOf W5,Calls Tryz.prog 323 #[.agg #[.int .i64 f,.int .i64 c,.int .i64 p],.agg #[.int .i64 f',.int .i64 1,.int .i64 p']] q.w' fun e w'=>e = .returned (.bool false)/\Below q.w'.heap.size q.w' w':=fun q=>by
            have h:=zgc f c p f' 1 p' q.w' (by omega)
            rwa [show (decide (f+c=f') && decide (p+c=p'))=false by simpa using hon] at h
          refine zad (by kernel_rfl) (by kernel_rfl) ?_
          repeat (go_big_quiet_step ((first | (go_at_call 323;exact zb1 (HA _)) | rfl)))
          refine wpQuiet_nil ?_;intro w7 hw7;obtain ⟨⟨wx,cx⟩,hwx⟩:=hw7;have b7 : Below W5.heap.size W5 w7:=by rw [hwx];exact cx
          have own7:=za9 ownA b7;have kB7:=(b7.block nB sB).trans kB;replace hbA:=za1 hbA b7;clear hwx cx wx hne e0 e1 e2 f0 f1 f2 HA mo b7 ownA kB t0 t1 t2 u0 u1 u2;obtain ⟨q0,q1,q2⟩:=cq3 kB7;have OWN : Hid (∀ (o : Obj) (_ : Unit),(w7.alloc o).ownsRow w.heap.size 172 3 (.slice (some ⟨g,0,none⟩) (pre ++ [(f,c,p)]).length cp) (pre ++ [(f,c,p)]).length ((pre ++ [(f,c,p)]).flatMap zak)):=fun o _=>own7.alloc o
          have OWNL : Hid (∀ q,(Value.slice (some ⟨g,0,none⟩) (pre ++ [(f,c,p)]).length cp).ownBlock=some q->w.heap.size<=q):=fun q hq=>(own7.lt q hq).1
          clear own7
          go_wp2_with (at_builtin;refine wpList_append_own _ rfl _ _ 269 rfl w.heap.size 172 i0 (.agg #[.int .i64 0,.int .i64 0,.int .i64 0]) 3 24 Tryz.underlying269 hi hz0 hz1 hz2 rfl (by decide) _ _ _ rfl (OWN.out _ ()) ⟨w7.heap.size,0,none⟩ 1 1 (zak (f',1,p')) rfl rfl ?c1 ?c2 ?c3 ?c4 ?c5 ?_)
          case c1=>exact zeq _ _ _
          case c2=>intro u hu;simp [zak] at hu;rcases hu with rfl | rfl | rfl <;> rfl
          case c3 => have hmx : (20 : Nat) <= maxLen := by unfold maxLen;omega
                     omega
          case c4=>omega
          case c5=>have:=hbA.size;simp;omega
          intro v' w9 hown' hgrow hnil;obtain ⟨g',cp',rfl,own9⟩:=zi4 (acc:=pre ++ [(f,c,p)]) (x:=(f',1,p')) (base:=w.heap.size) (w3:=w9) (v':=v') rfl (by simpa using hown') (by simpa using hnil);have hb9 : Below w.heap.size w w9:=(za3 (show Below w.heap.size w w7 from ⟨hbA.os,hbA.tape,hbA.output,hbA.size,hbA.block⟩)).grown hgrow (by have:=hbA.size;simp;omega) (fun q hq=>OWNL.out q hq);have HO : Hid _:=own9;clear hown' hgrow hnil own9 OWN
          go_wp2_with fail
          go_roundw
          case rel=>exact ⟨k+1,g',cp',_,by omega,by go_num,by simp,HN2.out,HO.out,hb9⟩
          case measure=>simp [intOf];omega
    · obtain rfl : k=rs.length:=by omega
      rw [List.take_length] at hacc;have HO : Hid (wr.ownsRow w.heap.size 172 3 (.slice (some ⟨g,0,none⟩) acc.length cp) (joinRuns rs).length ((joinRuns rs).flatMap zak)):=by rw [Hid,<- hacc];exact own
      clear own hacc
      go_wp2_with fail
      go_ret;exact ⟨_,rfl,HO.out,by simp,hb⟩
def zck (l : List Int) : Nat->List (Int × Int × Int)
  | 0=>[]
  | n+1=>if l.getD n 0 = -1 then zck l n else zck l n ++ [((n : Int),1,l.getD n 0)]
theorem zjx (l : List Int) (n : Nat) : (zck l n).length<=n:=by
  induction n with
  | zero=>simp [zck]
  | succ n ih =>
    rw [zck]
    split
    · omega
    · rw [List.length_append,List.length_singleton];omega
theorem zm0 (l : List Int) (n : Nat) (hn : n<=16) (hv : ∀ j,j < n->-1<=l.getD j 0/\l.getD j 0<=23) : ∀ r ∈ zck l n,zlz r:=by
  induction n with
  | zero=>intro r hr;simp [zck] at hr
  | succ n ih =>
    have ih':=ih (by omega) (fun j hj=>hv j (by omega));rw [zck]
    split
    · exact ih'
    · intro r hr
      rcases List.mem_append.1 hr with hr | hr
      · exact ih' r hr
      · rw [List.mem_singleton] at hr
        subst hr;have:=hv n (by omega);refine ⟨rfl,?_,?_,?_,?_⟩ <;> simp only <;> omega
theorem zog (l : List Int) (n : Nat) (hv : ∀ j,j < n->-1<=l.getD j 0/\l.getD j 0<=23) : joinRuns (zck l n)=upto l n:=by
  induction n with
  | zero=>rfl
  | succ n ih =>
    have ih':=ih (fun j hj=>hv j (by omega));have hn:=hv n (by omega);rw [zck,upto,<- ih'];unfold zhv;by_cases h : l.getD n 0 = -1
    · rw [if_pos h,if_pos (by omega)]
    · rw [if_neg h,if_neg (by omega),joinRuns,List.foldl_append]
      rfl
theorem zrx (a b : List Int) (n : Nat) (h : ∀ j,j < n->a.getD j 0=b.getD j 0) : upto a n=upto b n:=by
  induction n with
  | zero=>rfl
  | succ n ih=>rw [upto,upto,ih (fun j hj=>h j (by omega)),h n (by omega)]
theorem zno (l : List Int) (s j : Nat) (hj : j < s) : (l.take s).getD j 0=l.getD j 0:=by
  rw [List.getD_eq_getElem?_getD,List.getElem?_take_of_lt hj,List.getD_eq_getElem?_getD]
theorem zry (l : List Int) (size : Int) (s : Nat) (hl : l.length=16) (hs : (s : Int)=min (max size 0) 16) : mapOf (l.take s)=mapOf (cutAt l size):=by
  have hs16 : s<=16:=by omega
  rw [mapOf,mapOf,cutAt_length,List.length_take,hl,Nat.min_eq_left hs16];have h1:=zh9 (cutAt l size) s (16 - s) (fun j h1 h2=>by rw [zfq l size j (by omega),if_neg (by omega)];omega);rw [show s+(16 - s)=16 by omega] at h1;rw [h1];refine zrx _ _ s (fun j hj=>?_);rw [zno l s j hj,zfq l size j (by omega),if_pos (by omega)]
set_option maxRecDepth 100000 in
theorem zec (v : Value) (l : List Int) (w : World) (hl : l.length<=16) (hv : ∀ j,j < l.length->-1<=l.getD j 0/\l.getD j 0<=23) (r : Reads w.heap.size w v (l.map (Value.int .i64))) :
    Calls Tryz.prog 281 #[v] w fun e w'=>∃ v' : Value,e = .returned v'/\w'.ownsRow w.heap.size 172 3 v' (mapOf l).length ((mapOf l).flatMap zak)/\v' ≠ .slice none 0 0/\Below w.heap.size w w':=by
  obtain ⟨i0,hi,hz0,hz1,hz2⟩:=info_parts Tryz.infoRun;obtain ⟨o,cap,rfl,hm,hc,-⟩:=r
  obtain ⟨N,hN⟩ : ∃ N,l.length=N:=⟨_,rfl⟩
  have hlm : (l.map (Value.int .i64)).length=N:=by simp [hN]
  rw [hlm];rw [hN] at hl hv;have HC : Hid (∀ j,j < N->∃ g off,o=some ⟨g,off,none⟩/\g < w.heap.size/\w.cell? ⟨g,off+j,none⟩=some (.int .i64 (l.getD j 0))):=fun j hj=>hc j _ (by rw [List.getElem?_map,List.getElem?_eq_getElem (by omega),List.getD_eq_getElem?_getD,List.getElem?_eq_getElem (by omega)];rfl)
  have HV : Hid _:=hv;have HJ : Hid (joinRuns (zck l N)=mapOf l):=by rw [Hid,zog l N hv,mapOf,hN]
  have HSS : Hid (∀ r ∈ zck l N,zlz r):=zm0 l N hl hv;have own0 : (w.alloc (.cells #[] 172)).ownsRow w.heap.size 172 3 (.slice (some ⟨w.heap.size,0,none⟩) 0 0) 0 []:=World.ownsRow_lit w #[] 0 (Nat.le_refl _) (Nat.zero_le _) rfl;have d0 : Below w.heap.size w (w.alloc (.cells #[] 172)):=za3 (Below.refl _ _);clear hc hm hlm hv hN
  go_enter Tryz.func281,Tryz.ntmps281
  go_wp2_with fail
  go_loopw [3,9] (fun q i wr=>∃ (k g cp : Nat) (acc : List (Int × Int × Int)),k<=N/\i = .int .i64 k/\q = .slice (some ⟨g,0,none⟩) acc.length cp/\acc=zck l k/\wr.ownsRow w.heap.size 172 3 (.slice (some ⟨g,0,none⟩) acc.length cp) acc.length (acc.flatMap zak)/\Below w.heap.size w wr) (fun _ i _=>N - (intOf i).toNat)
  case atStart=>exact ⟨0,_,_,[],Nat.zero_le _,rfl,rfl,rfl,own0,d0⟩
  case round =>
    clear own0 d0;obtain ⟨k,g,cp,acc,hk,rfl,rfl,hacc,own,hb⟩:=hrel;by_cases hlt : k < N
    · obtain ⟨g1,off,rfl,hg1,a0⟩:=HC.out k hlt
      have hvb:=HV.out k hlt;have hfew : acc.length<=k:=by rw [hacc];exact zjx l k
      have HNX : Hid (zck l (k+1)=if l.getD k 0 = -1 then acc else acc ++ [((k : Int),1,l.getD k 0)]):=by rw [Hid,hacc];rfl
      replace a0:=(hb.cell (p:=⟨g1,off+k,none⟩) hg1).trans a0;clear hacc HC HV;generalize l.getD k 0=z at a0 hvb HNX;have hk0 : (0 : Int)<=(k : Int):=by omega
      have hk1 : (k : Int) < (N : Int):=by omega
      by_cases hneg : z = -1
      · have HN2 : Hid (acc=zck l (k+1)):=by rw [Hid,HNX.out,if_pos hneg]
        subst hneg
        go_wp2_with fail
        go_roundw
        case rel=>exact ⟨k+1,g,cp,acc,by omega,by go_num,rfl,HN2.out,own,hb⟩
        case measure=>simp [intOf];omega
      · have HN2 : Hid (acc ++ [((k : Int),1,z)]=zck l (k+1)):=by rw [Hid,HNX.out,if_neg hneg]
        have hz : (z != -1)=true:=by simpa using hneg
        have OWNL : Hid (∀ q,(Value.slice (some ⟨g,0,none⟩) acc.length cp).ownBlock=some q->w.heap.size<=q):=fun q hq=>(own.lt q hq).1
        have OWN : Hid (∀ (o : Obj),(wr.alloc o).ownsRow w.heap.size 172 3 (.slice (some ⟨g,0,none⟩) acc.length cp) acc.length (acc.flatMap zak)):=fun o=>own.alloc o
        clear own hneg
        go_wp2_with (at_builtin;refine wpList_append_own _ rfl _ _ 269 rfl w.heap.size 172 i0 (.agg #[.int .i64 0,.int .i64 0,.int .i64 0]) 3 24 Tryz.underlying269 hi hz0 hz1 hz2 rfl (by decide) _ _ _ rfl (OWN.out _) ⟨wr.heap.size,0,none⟩ 1 1 (zak ((k : Int),1,z)) rfl rfl ?c1 ?c2 ?c3 ?c4 ?c5 ?_)
        case c1=>exact zeq _ _ _
        case c2=>intro u hu;simp [zak] at hu;rcases hu with rfl | rfl | rfl <;> rfl
        case c3 => have hmx : (20 : Nat) <= maxLen := by unfold maxLen;omega
                   omega
        case c4=>omega
        case c5=>have:=hb.size;simp;omega
        intro v' w3 hown' hgrow hnil;obtain ⟨g',cp',rfl,own9⟩:=zi4 (acc:=acc) (x:=((k : Int),1,z)) (base:=w.heap.size) (w3:=w3) (v':=v') rfl (by simpa using hown') (by simpa using hnil);have hb9 : Below w.heap.size w w3:=(za3 hb).grown hgrow (by have:=hb.size;simp;omega) (fun q hq=>OWNL.out q hq);have HO : Hid _:=own9;clear hown' hgrow hnil own9 OWN
        go_wp2_with fail
        go_roundw
        case rel=>exact ⟨k+1,g',cp',_,by omega,by go_num,by simp,HN2.out,HO.out,hb9⟩
        case measure=>simp [intOf];omega
    · obtain rfl : k=N:=by omega
      have hal : acc.length<=16:=by rw [hacc];have:=zjx l k;omega
      rw [<- hacc] at HJ HSS;have rd:=ReadsR.of_own zat own;have hbs:=hb.size;clear own hacc
      go_wp2_with fail
      refine (zrw _ acc _ HSS.out hal rd).mono ?_;rintro e w2 ⟨v',rfl,own2,hnn,b2⟩;have HO : Hid (w2.ownsRow w.heap.size 172 3 v' (mapOf l).length ((mapOf l).flatMap zak)):=by rw [Hid,<- HJ.out];exact zah own2 hbs
      have hb2:=za1 hb b2;clear own2 b2 rd
      go_wp2_with fail
      go_ret;exact ⟨v',rfl,HO.out,hnn,hb2⟩
end Go.Proofs.YtfkkapdofjhgpaaGreatDoor
