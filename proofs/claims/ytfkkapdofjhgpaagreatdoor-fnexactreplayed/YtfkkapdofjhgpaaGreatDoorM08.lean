import Derived.Laws.MakeOwn
import Derived.Deep.DeepCutAuto
import Derived.Laws.Cover1
import Derived.Deep.RegionHeld3
import Derived.Deep.RegionLaw
import Derived.Test.YtfkkapdofjhgpaaGreatDoorM01
import Derived.Test.YtfkkapdofjhgpaaGreatDoorM02
import Derived.Test.YtfkkapdofjhgpaaGreatDoorM04
import Derived.Test.YtfkkapdofjhgpaaGreatDoorM05
import Derived.Test.YtfkkapdofjhgpaaGreatDoorM06
import Derived.Test.YtfkkapdofjhgpaaGreatDoorM07
set_option maxHeartbeats 12800000
namespace Go.Proofs.YtfkkapdofjhgpaaGreatDoor
open Go.RowKit
set_option linter.unusedVariables false
set_option maxRecDepth 100000
theorem zc9 {o : Oq} (h : opOk o=true) : Nums.nameB o.nm.data.toList=true/\(1<=o.k/\o.k<=9)/\(kOther o.k=true->Nums.nameB o.ot.data.toList=true)/\(0<=o.at_/\o.at_<=255)/\(kSize o.k=true->1<=o.va/\o.va<=16)/\(o.k=2->0<=o.va/\o.va<=999):=by
  simp only [opOk,Bool.and_eq_true,inB_iff] at h;obtain ⟨⟨⟨⟨⟨⟨⟨⟨h1,h2⟩,h3⟩,h4⟩,h5⟩,h6⟩,h7⟩,h8⟩,h9⟩:=h;refine ⟨h1,h2,fun q=>?_,h6,fun q=>?_,fun q=>?_⟩
  · rw [q] at h4;simpa using h4
  · unfold valOk at h9;rw [if_pos q,inB_iff] at h9;exact h9
  · unfold valOk at h9
    rw [q] at h9;simp only [kSize] at h9;rw [if_neg (by decide),if_pos (by trivial),inB_iff] at h9;exact h9
theorem zbk {bs : List Pb} {o : Oq} (h : za5 bs o=0) : (o.k ≠ 1->0<=findP bs o.nm)/\(o.k=1->findP bs o.nm < 0/\bs.length ≠ 6)/\(kOther o.k=true->findP bs o.ot < 0/\(o.k ≠ 1->bs.length ≠ 6))/\(o.k ≠ 1->kAt o.k=true->o.at_ < (zau bs (findP bs o.nm)).sz)/\(o.k=8->(zau bs (findP bs o.nm)).ep ≠ 1000):=by
  unfold za5 at h
  split at h
  · omega
  rename_i h1
  split at h
  · omega
  rename_i h2
  have a1 : o.k ≠ 1->0<=findP bs o.nm:=fun q=>by
    by_cases z : findP bs o.nm < 0
    · exact absurd ⟨q,z⟩ h1
    · omega
  have a3 : kOther o.k=true->findP bs o.ot < 0:=fun q=>by
    by_cases z : 0<=findP bs o.ot
    · exact absurd (.inr ⟨q,z⟩) h2
    · omega
  have a2 : o.k=1->findP bs o.nm < 0:=fun q=>by
    by_cases z : 0<=findP bs o.nm
    · exact absurd (.inl ⟨q,z⟩) h2
    · omega
  split at h
  · rename_i h3
    have a4 : bs.length ≠ 6:=fun q=>by rw [if_pos q] at h;omega
    exact ⟨a1,fun q=>⟨a2 q,a4⟩,fun q=>⟨a3 q,fun _=>a4⟩,fun q=>absurd h3 q,fun q=>by omega⟩
  rename_i h3
  split at h
  · omega
  split at h
  · omega
  split at h
  · omega
  rename_i h6
  split at h
  · omega
  rename_i h7
  split at h
  · omega
  rename_i h8
  exact ⟨a1,fun q=>absurd q h3,fun q=>⟨a3 q,fun _ z=>h7 ⟨q,z⟩⟩,fun _ q=>by
    by_cases z : (zau bs (findP bs o.nm)).sz<=o.at_
    · exact absurd ⟨q,z⟩ h6
    · omega,fun q z=>h8 ⟨q,z⟩⟩
theorem zif (rs : List (Int × Int × Int)) (hm : mapOk rs=true) (k : Nat) : (pagesOf rs).count (k : Int)=(za7 rs).count (k : Int):=by
  unfold pagesOf;rw [if_pos hm,List.count_filter (by simp)]
theorem zvg {s : Sf} (h : ShInv s) (o : Oq) (ho : opOk o=true) (hk : o.k=9\/o.k=8\/o.k=7\/o.k=3\/o.k=2) (i : Nat) (hi : i < s.bs.length) (hat : kAt o.k=true->o.at_ < s.bs[i].sz) (h8 : o.k=8->s.bs[i].ep ≠ 1000) (page : Int) (hpg : page=if o.at_ < 16 then (za7 s.bs[i].rs).getD o.at_.toNat 0 else -1) : ShInv (doKind s o i s.bs[i] page).1:=by
  obtain ⟨-,-,-,ha,hs7,hw2⟩:=zc9 ho;have hbo:=h.oks _ (List.getElem_mem hi);obtain ⟨b1,b2,b3,b4,b5⟩:=zaw hbo;unfold doKind;rcases hk with q | q | q | q | q
  · rw [if_pos q];exact h
  · rw [if_neg (by omega),if_pos q]
    refine h.put i hi { s.bs[i] with ep:=s.bs[i].ep+1 } (zg7 (b:={ s.bs[i] with ep:=s.bs[i].ep+1 }) b1 b2 (by have:=h8 q;simp only;omega) b4 b5) rfl s.cs s.ps h.cells (fun k hk=>?_) (fun k h1 h2=>zf9 h i hi k h1 h2)
    show s.cs.getD k 0=s.cs.getD k 0 - s.bs[i].cnt (k : Int)+s.bs[i].cnt (k : Int)
    omega
  · rw [if_neg (by omega),if_neg (by omega),if_pos q]
    have hv:=hs7 (by rw [q];decide);obtain ⟨n,hn⟩:=Int.eq_ofNat_of_zero_le (show 0<=o.va by omega);obtain ⟨c1,c2⟩:=zvf h i hi o.va.toNat (by omega);have p1:=zj4 s.bs[i].rs b4 o.va.toNat (by omega)
    have hset : (cutBook s i o.va.toNat).bs=s.bs.set i { s.bs[i] with rs:=mapOf (cutAt (za7 s.bs[i].rs) (o.va.toNat : Nat)) }:=by
      unfold cutBook;rw [zbz s.bs i hi]
    have hbk : zau (cutBook s i o.va.toNat).bs i = { s.bs[i] with rs:=mapOf (cutAt (za7 s.bs[i].rs) (o.va.toNat : Nat)) }:=by
      rw [hset,zbz _ i (by simpa using hi),List.getElem_set_self]
    rw [hbk,hset,List.set_set];refine h.put i hi { s.bs[i] with rs:=mapOf (cutAt (za7 s.bs[i].rs) (o.va.toNat : Nat)),sz:=o.va } (zg7 (b:={ s.bs[i] with rs:=mapOf (cutAt (za7 s.bs[i].rs) (o.va.toNat : Nat)),sz:=o.va }) b1 hv b3 p1.1 (by simp only;rw [show o.va=((o.va.toNat : Nat) : Int) by omega];exact p1.2.2)) rfl _ _ c1 (fun k hk=>?_) (fun k h1 h2=>?_)
    · rw [c2 k hk]
      show _=s.cs.getD k 0 - ((za7 s.bs[i].rs).count (k : Int) : Int)+((za7 (mapOf (cutAt (za7 s.bs[i].rs) (o.va.toNat : Nat)))).count (k : Int) : Int)
      rw [p1.2.1,zjp _ (zac _) _ (by omega)]
      omega
    · show ((za7 (mapOf (cutAt (za7 s.bs[i].rs) (o.va.toNat : Nat)))).count (k : Int) : Int)=0
      rw [p1.2.1,zjp _ (zac _) _ (by omega)];have:=zf9 h i hi k h1 h2;unfold Pb.cnt at this;have:=(List.drop_sublist o.va.toNat (za7 s.bs[i].rs)).count_le (k : Int)
      omega
  · rw [if_neg (by omega),if_neg (by omega),if_neg (by omega),if_pos q]
    have hlt:=hat (by rw [q];decide);rw [if_pos (by omega)] at hpg
    split
    · rename_i h0
      obtain ⟨j,hj⟩:=Int.eq_ofNat_of_zero_le ha.1;have hjt : o.at_.toNat=j:=by omega
      rw [hjt] at hpg ⊢;have hmem : page ∈ za7 s.bs[i].rs:=(zct _ (zac _) _).2 ⟨j,by omega,hpg.symm⟩;obtain ⟨g1,g2⟩:=h.page i hi page hmem h0;obtain ⟨m,rfl⟩:=Int.eq_ofNat_of_zero_le h0;rw [Int.toNat_natCast] at g2;obtain ⟨c1,c2⟩:=zg6 h.cells m (by omega) g2;have p1:=znc s.bs[i] hbo j (by omega) (-1) (by omega);refine h.put i hi { s.bs[i] with rs:=mapOf ((za7 s.bs[i].rs).set j (-1)) } (zg7 (b:={ s.bs[i] with rs:=mapOf ((za7 s.bs[i].rs).set j (-1)) }) b1 b2 b3 p1.1 p1.2.2) rfl _ _ c1 (fun k hk=>?_) (fun k h1 h2=>?_)
      · rw [c2]
        show _=s.cs.getD k 0 - ((za7 s.bs[i].rs).count (k : Int) : Int)+((za7 (mapOf ((za7 s.bs[i].rs).set j (-1)))).count (k : Int) : Int)
        rw [p1.2.1,zer _ j (by rw [zac];omega),<- hpg,if_neg (show ¬ (-1 : Int)=(k : Int) by omega)];by_cases e : m=k
        · subst e;rw [if_pos rfl,if_pos rfl];omega
        · rw [if_neg e,if_neg (by omega)];omega
      · show ((za7 (mapOf ((za7 s.bs[i].rs).set j (-1)))).count (k : Int) : Int)=0
        rw [p1.2.1,zer _ j (by rw [zac];omega),<- hpg,if_neg (show ¬ (-1 : Int)=(k : Int) by omega),if_neg (by omega)];have:=zf9 h i hi k h1 h2;unfold Pb.cnt at this
        omega
    · exact h
  · rw [if_neg (by omega),if_neg (by omega),if_neg (by omega),if_neg (by omega)]
    have hlt:=hat (by rw [q];decide);have hv:=hw2 q;rw [if_pos (by omega)] at hpg;obtain ⟨j,hj⟩:=Int.eq_ofNat_of_zero_le ha.1;have hjt : o.at_.toNat=j:=by omega
    unfold doWrite;rw [hjt] at hpg ⊢
    split
    · rename_i h0
      obtain ⟨m,rfl⟩:=Int.eq_ofNat_of_zero_le h0.1;have hmem : (m : Int) ∈ za7 s.bs[i].rs:=(zct _ (zac _) _).2 ⟨j,by omega,hpg.symm⟩;obtain ⟨g1,g2⟩:=h.page i hi _ hmem h0.1;rw [Int.toNat_natCast] at h0 g2 ⊢;exact ⟨h.n1,h.cells.same m (by omega) o.va hv (by omega),h.few,h.oks,h.srt,h.cnt,h.out⟩
    · rename_i h0
      split
      · rename_i hf
        obtain ⟨t1,t2⟩:=h.cells.took o.va hv hf;have htk : tookAt s.cs=(zaf s.cs : Int):=by unfold tookAt;rw [if_pos hf]
        have hn24:=h.n1.2;have p1:=znc s.bs[i] hbo j (by omega) (tookAt s.cs) (by omega);have hfc : s.cs.getD (zaf s.cs) 0=0:=zei s.cs hf;by_cases hp : 0<=page
        · have hmem : page ∈ za7 s.bs[i].rs:=(zct _ (zac _) _).2 ⟨j,by omega,hpg.symm⟩
          obtain ⟨g1,g2⟩:=h.page i hi page hmem hp;obtain ⟨m,rfl⟩:=Int.eq_ofNat_of_zero_le hp;rw [Int.toNat_natCast] at g2;have hmf : zaf s.cs ≠ m:=fun e=>by rw [e] at hfc;omega
          have t3:=t2 m (by omega);rw [if_neg (by omega)] at t3;obtain ⟨c1,c2⟩:=zg6 t1 m (by omega) (by omega);refine h.put i hi { s.bs[i] with rs:=mapOf ((za7 s.bs[i].rs).set j (tookAt s.cs)) } (zg7 (b:={ s.bs[i] with rs:=mapOf ((za7 s.bs[i].rs).set j (tookAt s.cs)) }) b1 b2 b3 p1.1 p1.2.2) rfl _ _ c1 (fun k hk=>?_) (fun k h1 h2=>?_)
          · rw [c2]
            show _=s.cs.getD k 0 - ((za7 s.bs[i].rs).count (k : Int) : Int)+((za7 (mapOf ((za7 s.bs[i].rs).set j (tookAt s.cs)))).count (k : Int) : Int)
            rw [p1.2.1,zer _ j (by rw [zac];omega),<- hpg,t2 k hk];by_cases e : m=k
            · subst e;rw [if_pos rfl,if_pos rfl];omega
            · rw [if_neg e,if_neg (show ¬ (m : Int)=(k : Int) by omega)];omega
          · show ((za7 (mapOf ((za7 s.bs[i].rs).set j (tookAt s.cs)))).count (k : Int) : Int)=0
            rw [p1.2.1,zer _ j (by rw [zac];omega),<- hpg,if_neg (by omega),if_neg (by omega)];have:=zf9 h i hi k h1 h2;unfold Pb.cnt at this
            omega
        · have hd : dropOne (tookC s.cs,tookP s.cs s.ps o.va) page=(tookC s.cs,tookP s.cs s.ps o.va):=by rw [dropOne,if_neg hp]
          rw [hd];refine h.put i hi { s.bs[i] with rs:=mapOf ((za7 s.bs[i].rs).set j (tookAt s.cs)) } (zg7 (b:={ s.bs[i] with rs:=mapOf ((za7 s.bs[i].rs).set j (tookAt s.cs)) }) b1 b2 b3 p1.1 p1.2.2) rfl _ _ t1 (fun k hk=>?_) (fun k h1 h2=>?_)
          · show _=s.cs.getD k 0 - ((za7 s.bs[i].rs).count (k : Int) : Int)+((za7 (mapOf ((za7 s.bs[i].rs).set j (tookAt s.cs)))).count (k : Int) : Int)
            rw [p1.2.1,zer _ j (by rw [zac];omega),<- hpg,t2 k hk,if_neg (show ¬ page=(k : Int) by omega)]
            omega
          · show ((za7 (mapOf ((za7 s.bs[i].rs).set j (tookAt s.cs)))).count (k : Int) : Int)=0
            rw [p1.2.1,zer _ j (by rw [zac];omega),<- hpg,if_neg (show ¬ page=(k : Int) by omega),if_neg (by omega)];have:=zf9 h i hi k h1 h2;unfold Pb.cnt at this
            omega
      · exact h
theorem zyq {s : Sf} (h : ShInv s) (o : Oq) : ShInv (doOp s o).1:=by
  unfold doOp
  split
  · exact h
  rename_i ho
  have ho : opOk o=true:=by simpa using ho
  split
  · exact h
  rename_i hr
  have hr : za5 s.bs o=0:=by simpa using hr
  obtain ⟨r1,r2,r3,r4,r5⟩:=zbk hr;obtain ⟨n1,n2,n3,n4,n5,n6⟩:=zc9 ho
  split
  · rename_i q
    obtain ⟨q1,q2⟩:=r2 q;have hf:=h.few;refine h.insert ⟨o.nm,o.va,[],false,0⟩ (zg7 (b:=⟨o.nm,o.va,[],false,0⟩) n1 (n5 (by rw [q];decide)) (by simp only;omega) rfl rfl) q1 (by omega) s.cs h.cells (fun k hk=>?_) (fun k h1 h2=>znb _ _ _ _ _);rw [znb]
    omega
  rename_i q1
  have hfi:=r1 q1;obtain ⟨i,hi,hfe,hnm⟩:=zhd s.bs o.nm (by omega);rw [hfe] at r4 r5 ⊢;rw [zbz s.bs i hi] at r4 r5 ⊢;rw [Int.toNat_natCast]
  split
  · rename_i q6
    obtain ⟨c1,c2⟩:=zvf h i hi 0 (by omega);exact h.erase i hi _ _ c1 (fun k hk=>by rw [c2 k hk,List.drop_zero];rfl)
  rename_i q6
  split
  · rename_i q5
    obtain ⟨t1,t2⟩:=r3 q5;obtain ⟨b1,b2,b3,b4,b5⟩:=zaw (h.oks _ (List.getElem_mem hi));have hf:=h.few;have ht2:=t2 q1
    have hpm : ∀ p ∈ pagesOf s.bs[i].rs,0<=p/\p ∈ za7 s.bs[i].rs:=fun p hp=>by
      unfold pagesOf at hp;rw [if_pos b4,List.mem_filter,decide_eq_true_eq] at hp;exact ⟨hp.2,hp.1⟩
    obtain ⟨c1,c2⟩:=zjo (pagesOf s.bs[i].rs) h.cells (fun p hp=>⟨(hpm p hp).1,(h.page i hi p (hpm p hp).2 (hpm p hp).1).1⟩) (fun p hp=>(h.page i hi p (hpm p hp).2 (hpm p hp).1).2);refine h.insert ⟨o.ot,s.bs[i].sz,s.bs[i].rs,decide (o.k=4),0⟩ (zg7 (b:=⟨o.ot,s.bs[i].sz,s.bs[i].rs,decide (o.k=4),0⟩) (n3 q5) b2 (by simp only;omega) b4 b5) t1 (by omega) _ c1 (fun k hk=>?_) (fun k h1 h2=>zf9 h i hi k h1 h2);rw [c2 k hk,zif _ b4]
    rfl
  rename_i q5
  have hk : o.k=9\/o.k=8\/o.k=7\/o.k=3\/o.k=2:=by
    have : ¬ (o.k=4\/o.k=5):=fun z=>q5 (by unfold kOther;rcases z with z | z <;> simp [z])
    omega
  exact zvg h o ho hk i hi (r4 q1) r5 _ rfl
theorem zr4 (s : Sf) (o : Oq) (h : (doOp s o).2.1 ≠ 0) : (doOp s o).1=s/\(doOp s o).2.2=0:=by
  unfold doOp at h ⊢
  split
  · exact ⟨rfl,rfl⟩
  split
  · exact ⟨rfl,rfl⟩
  rename_i h1 h2
  rw [if_neg h1,if_neg h2] at h
  split at h
  · exact absurd rfl h
  split at h
  · exact absurd rfl h
  split at h
  · exact absurd rfl h
  rename_i h3 h4 h5
  rw [if_neg h3,if_neg h4,if_neg h5];generalize (if o.at_ < 16 then (za7 (zau s.bs (findP s.bs o.nm)).rs).getD o.at_.toNat 0 else -1)=page at h ⊢;unfold doKind at h ⊢
  split at h
  · exact absurd rfl h
  split at h
  · exact absurd rfl h
  split at h
  · exact absurd rfl h
  split at h
  · split at h <;> exact absurd rfl h
  rename_i k1 k2 k3 k4
  rw [if_neg k1,if_neg k2,if_neg k3,if_neg k4];unfold doWrite at h ⊢
  split at h
  · exact absurd rfl h
  split at h
  · exact absurd rfl h
  rename_i m1 m2
  rw [if_neg m1,if_neg m2];exact ⟨rfl,rfl⟩
def Bk.pb (b : Bk) : Pb:=⟨b.nm,b.sz,b.rs,b.fx,b.ep⟩
theorem zl3 : ∀ (l : List ByteArray),(∀ (j : Nat) (h1 : j+1 < l.length),ltB (l[j]'(by omega)) l[j+1]=true)->zdg l=true
  | [],_=>rfl
  | [a],_=>rfl
  | a :: b :: t,h=>by
    rw [zdg,Bool.and_eq_true];refine ⟨h 0 (by simp),zl3 (b :: t) (fun j h1=>?_)⟩;have:=h (j+1) (by simp at h1 ⊢;omega)
    simpa using this
theorem zr5 (l : List ByteArray) (j : Nat) (h1 : j+1 < l.length) (h : ltB (l[j]'(by omega)) l[j+1]=false) : zdg l=false:=by
  rw [Bool.eq_false_iff];intro q;have:=List.pairwise_iff_getElem.1 ((sorted_iff l).1 q) j (j+1) (by omega) h1 (by omega);rw [h] at this;cases this
def zcu (f : Nat->Int) : List Int:=(List.range 24).map f
theorem zel (f : Nat->Int) : (zcu f).length=24:=by simp [zcu]
theorem znd (f : Nat->Int) (k : Nat) (h : k < 24) : (zcu f).getD k 0=f k:=by
  rw [ze9 _ k (by rw [zel];exact h)];simp [zcu]
theorem zt1 (f : Nat->Int) (m : Nat) (hm : m < 24) (v : Int) : (zcu f).set m v=zcu (fun k=>if m=k then v else f k):=by
  apply List.ext_getElem (by simp [zcu])
  intro k h1 h2;rw [List.getElem_set];by_cases e : m=k
  · subst e;simp [zcu]
  · simp [zcu,e]
theorem zr6 : List.replicate 24 (0 : Int)=zcu (fun _=>0):=by decide
theorem zfa (f g : Nat->Int) (h : ∀ k,k < 24->f k=g k) : zcu f=zcu g:=by
  unfold zcu;exact List.map_congr_left (fun k hk=>h k (List.mem_range.1 hk))
theorem zr7 (l : List Int) (j : Nat) (hj : j < l.length) (k : Int) : ((l.take (j+1)).count k : Int)=((l.take j).count k : Int)+(if l[j]=k then 1 else 0):=by
  rw [List.take_succ_eq_append_getElem hj,List.count_append,List.count_singleton];by_cases e : l[j]=k
  · rw [if_pos (by rw [beq_iff_eq];exact e),if_pos e];omega
  · rw [if_neg (by rw [beq_iff_eq];exact e),if_neg e];omega
theorem zp2 (bs : List Pb) (i : Nat) (hi : i < bs.length) (p : Int) : zav (bs.take (i+1)) p=zav (bs.take i) p+bs[i].cnt p:=by
  rw [List.take_succ_eq_append_getElem hi,cntAll_append,cntAll_cons];have : zav ([] : List Pb) p=0:=rfl
  omega
theorem zp3 (b : Pb) (h : b.ok=true) (k : Nat) : ((pagesOf b.rs).count (k : Int) : Int)=b.cnt (k : Int):=by
  rw [zif _ (zaw h).2.2.2.1]
  rfl
theorem zr8 (rs : List (Int × Int × Int)) (h : mapOk rs=true) (p : Int) (hp : p ∈ pagesOf rs) : 0<=p/\p<=23:=by
  unfold pagesOf at hp;rw [if_pos h,List.mem_filter,decide_eq_true_eq] at hp;obtain ⟨j,hj,e⟩:=(zct _ (zac _) p).1 hp.1;have:=(zbg rs h j hj).2
  omega
theorem zfr (n : Nat) (hn : n<=1048576) : ∃ M : Array Value,M.toList=(List.replicate n (0 : Int)).map (Value.int .i64)/\(∀ W : World,(Instr.makeSlice 25 (.int .i64 (n : Int)) (.int .i64 (n : Int))).run Tryz.prog W = .ok (.slice (some ⟨W.heap.size,0,none⟩) n n) (W.alloc (.cells M 2))) /\
    ∀ (W : World) (base : Nat),base<=W.heap.size->(W.alloc (.cells M 2)).ownsRow base 2 1 (.slice (some ⟨W.heap.size,0,none⟩) n n) n ((List.replicate n (0 : Int)).map (Value.int .i64)):=by
  obtain ⟨i0,hi,hz0,hz1,hz2⟩:=info_parts Tryz.infoI64
  have e : (madeCells (Value.int .i64 0).cells n).toList=(List.replicate n (0 : Int)).map (Value.int .i64):=by
    show (madeCells #[.int .i64 0] n).toList = _
    rw [toList_madeCells_one];simp
  refine ⟨madeCells (Value.int .i64 0).cells n,e,fun W=>?_,fun W base hb=>?_⟩
  · have h:=run_make (P:=Tryz.prog) W 25 2 i0 (.int .i64 0) Tryz.underlying25 hi hz0 .i64 .i64 (n : Int) (n : Int) (by omega) (by omega) (by rw [hz2];omega) (by omega)
    rw [hz1,Nat.mul_one,Int.toNat_natCast] at h
    simpa using h
  · have h:=World.ownsRow_lit (base:=base) (size:=1) (e:=2) W (madeCells (Value.int .i64 0).cells n) n hb (by unfold maxLen;omega) (by rw [size_madeCells];omega)
    rwa [e] at h
theorem zyr {x y : Int} (h : (x != y)=true) : x ≠ y:=by simpa using h
theorem zvh {x y : Int} (h : (x != y)=false) : x=y:=by simpa using h
theorem zhz (v1 v2 : Value) (xs ys : List Int) (w : World) (h1 : Reads w.heap.size w v1 (xs.map (Value.int .i64))) (h2 : Reads w.heap.size w v2 (ys.map (Value.int .i64))) :
    Calls Tryz.prog 95 #[v1,v2] w fun e w'=>e = .returned (.bool (decide (xs=ys)))/\Below w.heap.size w w':=by
  obtain ⟨o1,cap1,rfl,m1,c1,-⟩:=h1;obtain ⟨o2,cap2,rfl,m2,c2,-⟩:=h2;simp only [List.length_map] at m1 m2 c1 c2 ⊢;by_cases hlen : xs.length=ys.length
  · rw [<- hlen]
    have C1 : Hid (∀ j u,(xs.map (Value.int .i64))[j]? = some u->∃ g off,o1=some ⟨g,off,none⟩/\g < w.heap.size/\w.cell? ⟨g,off+j,none⟩=some u):=c1;have C2 : Hid (∀ j u,(ys.map (Value.int .i64))[j]? = some u->∃ g off,o2=some ⟨g,off,none⟩/\g < w.heap.size/\w.cell? ⟨g,off+j,none⟩=some u):=c2;have HL : Hid (xs.length=ys.length):=hlen;have hle : ys.length<=xs.length:=by omega
    have hge : xs.length<=ys.length:=by omega
    unfold maxLen at m1;clear c1 c2 m2 hlen
    go_enter Tryz.func95,Tryz.ntmps95
    go_wp2
    go_loopw [5] (fun i wr=>∃ k : Nat,k<=xs.length/\i = .int .i64 k/\xs.take k=ys.take k/\Below w.heap.size w wr) (fun i _=>xs.length - (intOf i).toNat)
    case atStart=>exact ⟨0,Nat.zero_le _,rfl,rfl,Below.refl _ _⟩
    case round =>
      obtain ⟨k,hk,rfl,htk,hb⟩:=hrel;have HT : Hid (xs.take k=ys.take k):=htk;clear htk;by_cases hlt : k < xs.length
      · have hlt2 : k < ys.length:=by omega
        obtain ⟨g1,of1,rfl,q1,cc1⟩:=C1.out k (.int .i64 xs[k]) (by simp [hlt]);obtain ⟨g2,of2,rfl,q2,cc2⟩:=C2.out k (.int .i64 ys[k]) (by simp [hlt2]);generalize hx : xs[k]=x at cc1;generalize hy : ys[k]=y at cc2;have HX : Hid (xs[k]=x):=hx;have HY : Hid (ys[k]=y):=hy;clear hx hy C1 C2;have d1:=(hb.cell (p:=⟨g1,of1+k,none⟩) q1).trans cc1;have d2:=(hb.cell (p:=⟨g2,of2+k,none⟩) q2).trans cc2;clear cc1 cc2
        go_wp2
        go_quiet (fail)
        go_wp2
        · have hne : x ≠ y:=zyr (by assumption)
          rw [<- HX.out,<- HY.out] at hne;go_ret;exact ⟨za6 (by simp [zv0 xs ys k hlt hlt2 hne]),⟨hb.os,hb.tape,hb.output,hb.size,hb.block⟩⟩
        · have he : x=y:=zvh (by assumption)
          rw [<- HX.out,<- HY.out] at he
          go_roundw
          case rel=>exact ⟨k+1,by omega,by go_num,ziv xs ys k hlt hlt2 HT.out he,⟨hb.os,hb.tape,hb.output,hb.size,hb.block⟩⟩
          case measure=>simp [intOf];omega
      · go_wp2
        go_ret;exact ⟨za6 (by simp [ziw xs ys k hlt HL.out HT.out]),hb⟩
  · have hn : ((xs.length : Int) != (ys.length : Int))=true:=by rw [bne_iff_ne];omega
    have HX : Hid (decide (xs=ys)=false):=by rw [Hid,decide_eq_false_iff_not];intro e;rw [e] at hlen;exact hlen rfl
    unfold maxLen at m1 m2;clear hlen c1 c2
    go_enter Tryz.func95,Tryz.ntmps95
    go_wp2
    go_ret;exact ⟨za6 HX.out.symm,Below.refl _ _⟩
def zb6 (k : Int) (n : Nat) : List Int:=(List.range n).map fun i : Nat=>k+(i : Int)
theorem marksI_length (k : Int) (n : Nat) : (zb6 k n).length=n:=by simp [zb6]
theorem zr9 (k : Int) (n j : Nat) (h : j < n) : ((zb6 k n).map (Value.int .i64))[j]? = some (.int .i64 (k+j)):=by simp [zb6,h]
theorem zp4 (k : Int) (xs : List Value) (j : Nat) (h : j < xs.length) :
    ((zb6 k j).map (Value.int .i64) ++ xs.drop j).set j (.int .i64 (k+j))=(zb6 k (j+1)).map (Value.int .i64) ++ xs.drop (j+1):=by
  have hl : ((zb6 k j).map (Value.int .i64)).length=j:=by simp [zb6]
  have hs : (zb6 k (j+1)).map (Value.int .i64)=(zb6 k j).map (Value.int .i64) ++ [.int .i64 (k+j)]:=by simp [zb6,List.range_succ]
  rw [List.set_append_right _ _ (by omega),hl,Nat.sub_self,List.drop_eq_getElem_cons h,List.set_cons_zero,hs];exact (List.append_assoc _ [Value.int .i64 (k+j)] _).symm
theorem zp5 (k : Int) (xs : List Value) (n : Nat) (h : xs.length=n) : (zb6 k n).map (Value.int .i64) ++ xs.drop n=(zb6 k n).map (Value.int .i64):=by
  rw [List.drop_of_length_le (by omega)];simp
theorem zp6 (g cap n base : Nat) (k : Int) (xs : List Value) (w : World) (hk : 0<=k) (hn : k+n<=1099511627776) (own : w.ownsRow base 2 1 (.slice (some ⟨g,0,none⟩) n cap) n xs) :
    Calls Tryz.prog 101 #[.slice (some ⟨g,0,none⟩) n cap,.int .i64 k] w fun e w'=>e = .returned (.int .i64 (k+n))/\w'.ownsRow base 2 1 (.slice (some ⟨g,0,none⟩) n cap) n ((zb6 k n).map (Value.int .i64))/\Upto g w w':=by
  have hx : xs.length=n:=by simpa using own.1
  have hg:=own.lt g rfl
  go_enter Tryz.func101,Tryz.ntmps101
  go_wp2
  go_loopw [1,5] (fun q i wr=>∃ j : Nat,j<=n/\i = .int .i64 j/\q = .int .i64 (k+j)/\wr.ownsRow base 2 1 (.slice (some ⟨g,0,none⟩) n cap) n ((zb6 k j).map (Value.int .i64) ++ xs.drop j)/\Upto g w wr) (fun _ i _=>n - (intOf i).toNat)
  case atStart=>exact ⟨0,Nat.zero_le _,rfl,by simp,by simpa [zb6] using own,Upto.refl _ _⟩
  case round =>
    obtain ⟨j,hj,rfl,rfl,ow,u⟩:=hrel;clear own;by_cases hlt : j < n
    · have hc0:=ow.cellAt j (by omega)
      have hf:=ow.frozenAt j;have hst:=(ow.stored j (.int .i64 (k+j))).1;rw [zp4 k xs j (by omega)] at hst;have HST : Hid ((wr.setCell ⟨g,j,none⟩ (.int .i64 (k+j))).ownsRow base 2 1 (.slice (some ⟨g,0,none⟩) n cap) n ((zb6 k (j+1)).map (Value.int .i64) ++ xs.drop (j+1))):=hst
      obtain ⟨u0,hu0⟩ : ∃ u0,((zb6 k j).map (Value.int .i64) ++ xs.drop j)[j]? = some u0:=⟨_,List.getElem?_eq_getElem (by simp [marksI_length];omega)⟩
      have hc : wr.cell? ⟨g,j,none⟩=some u0:=hc0.trans hu0;have u2 : Upto g w (wr.setCell ⟨g,j,none⟩ (.int .i64 (k+j))):=u.setCell _ (.inl rfl) _;clear ow hc0 hu0 hst u
      go_wp2_with fail
      go_roundw
      case rel=>exact ⟨j+1,by omega,by go_num,by go_num,HST.out,u2⟩
      case measure=>simp [intOf];omega
    · obtain rfl : j=n:=by omega
      rw [zp5 k xs j hx] at ow
      go_wp2_with fail
      go_ret;exact ⟨rfl,ow,u⟩
theorem zew (v : Value) (n base : Nat) (k : Int) (xs : List Value) (w : World) (hk : 0<=k) (hn : k+n<=1099511627776) (hbase : base<=w.heap.size) (own : w.ownsRow base 2 1 v n xs) :
    Calls Tryz.prog 101 #[v,.int .i64 k] w fun e w'=>e = .returned (.int .i64 (k+n))/\w'.ownsRow base 2 1 v n ((zb6 k n).map (Value.int .i64))/\Below base w w'/\w.heap.size<=w'.heap.size/\∀ i,i < w.heap.size->v.ownBlock ≠ some i->w'.heap[i]? = w.heap[i]?:=by
  rcases own.2 with ⟨rfl,rfl⟩ | ⟨g,cap,cur,rfl,hg,_⟩
  · go_enter Tryz.func101,Tryz.ntmps101
    go_wp2
    refine wp_loop_rounds 1 ?_;rw [rounds_succ]
    go_wp2
    go_ret;exact ⟨zam (by simp),World.ownsRow_nil _ _ _ _,Below.refl _ _,Nat.le_refl _,fun _ _ _=>rfl⟩
  · refine (zp6 g cap n base k xs w hk hn own).mono ?_
    rintro e w' ⟨he,ho,hu⟩;exact ⟨he,ho,hu.toBelow hbase hg,hu.size,fun i hi hn=>hu.block i hi (fun e=>hn (by rw [e];rfl))⟩
theorem zj5 (v : Value) (n : Nat) (k : Int) (w : World) (hk : 0<=k) (hn : k+n<=1099511627776) (hr : Reads w.heap.size w v ((zb6 k n).map (Value.int .i64))) :
    Calls Tryz.prog 105 #[v,.int .i64 k] w fun e w'=>e = .returned (.int .i64 (k+n))/\Below w.heap.size w w':=by
  obtain ⟨o,cap,rfl,hm,hc,-⟩:=hr;have hl : ((zb6 k n).map (Value.int .i64)).length=n:=by simp [marksI_length]
  rw [hl] at hm ⊢;have HC : Hid (∀ j u,((zb6 k n).map (Value.int .i64))[j]? = some u->∃ g off,o=some ⟨g,off,none⟩/\g < w.heap.size/\w.cell? ⟨g,off+j,none⟩=some u):=hc;clear hc hl hm
  go_enter Tryz.func105,Tryz.ntmps105
  go_wp2
  go_loopw [1,5] (fun q i wr=>∃ j : Nat,j<=n/\i = .int .i64 j/\q = .int .i64 (k+j)/\Below w.heap.size w wr) (fun _ i _=>n - (intOf i).toNat)
  case atStart=>exact ⟨0,Nat.zero_le _,rfl,by simp,Below.refl _ _⟩
  case round =>
    obtain ⟨j,hj,rfl,rfl,hb⟩:=hrel;by_cases hlt : j < n
    · obtain ⟨g,off,rfl,hg,hx⟩:=HC.out j _ (zr9 k n j hlt)
      have hx1 : wr.cell? ⟨g,off+j,none⟩=some (.int .i64 (k+j)):=(hb.cell (p:=⟨g,off+j,none⟩) hg).trans hx;have g1 : (0 : Int)<=(j : Int):=by omega
      have g2 : (j : Int) < (n : Int):=by omega
      clear HC hx
      go_wp2
      go_roundw
      case rel=>exact ⟨j+1,by omega,by go_num,by go_num,hb⟩
      case measure=>simp [intOf];omega
    · obtain rfl : j=n:=by omega
      go_wp2_with fail
      go_ret;exact ⟨rfl,hb⟩
theorem zl4 (w : World) (v1 v2 : Value) (T : TypeId) : ∃ W0,W0=w.alloc (.cells #[v1,v2] T)/\W0.heap[w.heap.size]? = some (.cells #[v1,v2] T (0,0))/\Below w.heap.size w W0/\W0.heap.size=w.heap.size+1 :=
  ⟨_,rfl,heap_alloc_new w _,za3 (Below.refl _ _),by simp⟩
theorem getD_some (xs : List Int) (j : Nat) (h : j < xs.length) : (xs.map (Value.int .i64))[j]? = some (.int .i64 (xs.getD j 0)):=by
  rw [List.getElem?_map,List.getElem?_eq_getElem h,List.getD_eq_getElem?_getD,List.getElem?_eq_getElem h];rfl
end Go.Proofs.YtfkkapdofjhgpaaGreatDoor
namespace Go.Proofs.YtfkkapdofjhgpaaGreatDoor
open Go.RowKit
set_option linter.unusedVariables false
theorem zp7 {B : Nat} {w : World} {o : Option Addr} {xs : List Int} (hc : ∀ j u,(xs.map (Value.int .i64))[j]? = some u->∃ g off,o=some ⟨g,off,none⟩/\g < B/\w.cell? ⟨g,off+j,none⟩=some u) (j : Nat) (hj : j < xs.length) : ∃ g off,o=some ⟨g,off,none⟩/\g < B/\w.cell? ⟨g,off+j,none⟩=some (.int .i64 (xs.getD j 0)):=hc j _ (getD_some xs j hj)
end Go.Proofs.YtfkkapdofjhgpaaGreatDoor
namespace Go.Proofs.YtfkkapdofjhgpaaGreatDoor
open Go.RowKit
set_option linter.unusedVariables false
set_option maxRecDepth 100000
theorem zt2 (s : Sf) (o : Oq) (i : Nat) (b : Pb) (page : Int) : (doKind s o i b page).2.1=0\/((doKind s o i b page).2.1=9/\o.k ≠ 9/\o.k ≠ 8/\o.k ≠ 7/\o.k ≠ 3):=by
  unfold doKind
  split
  · exact .inl rfl
  rename_i k1
  split
  · exact .inl rfl
  rename_i k2
  split
  · exact .inl rfl
  rename_i k3
  split
  · split <;> exact .inl rfl
  rename_i k4
  unfold doWrite
  split
  · exact .inl rfl
  split
  · exact .inl rfl
  exact .inr ⟨rfl,k1,k2,k3,k4⟩
structure OwnP (base : Nat) (w : World) (v1 v2 : Value) (cs ps : List Int) : Prop where
  c : w.ownsRow base 2 1 v1 cs.length (cs.map (Value.int .i64))
  p : w.ownsRow base 2 1 v2 ps.length (ps.map (Value.int .i64))
  apart : ∀ g,v1.ownBlock=some g->v2.ownBlock ≠ some g
theorem OwnP.below {base : Nat} {w w' : World} {v1 v2 : Value} {cs ps : List Int} (h : OwnP base w v1 v2 cs ps) (b : Below w.heap.size w w') : OwnP base w' v1 v2 cs ps:=⟨za9 h.c b,za9 h.p b,h.apart⟩
theorem OwnP.mono {base base' : Nat} {w : World} {v1 v2 : Value} {cs ps : List Int} (h : OwnP base w v1 v2 cs ps) (b : base'<=base) : OwnP base' w v1 v2 cs ps:=⟨zah h.c b,zah h.p b,h.apart⟩
theorem OwnP.upto {base c : Nat} {w w' : World} {v1 v2 : Value} {cs ps : List Int} (h : OwnP base w v1 v2 cs ps) (u : Upto c w w') (hc : c < base) : OwnP base w' v1 v2 cs ps:=⟨zbc h.c u hc,zbc h.p u hc,h.apart⟩
theorem OwnP.r1 {base : Nat} {w : World} {v1 v2 : Value} {cs ps : List Int} (h : OwnP base w v1 v2 cs ps) : Reads w.heap.size w v1 (cs.map (Value.int .i64)):=Reads.of_own h.c
theorem OwnP.r2 {base : Nat} {w : World} {v1 v2 : Value} {cs ps : List Int} (h : OwnP base w v1 v2 cs ps) : Reads w.heap.size w v2 (ps.map (Value.int .i64)):=Reads.of_own h.p
theorem OwnP.nil (base : Nat) (w : World) : OwnP base w (.slice none 0 0) (.slice none 0 0) [] []:=⟨zes _ _ _ _,zes _ _ _ _,fun g h=>by cases h⟩
theorem zex (w : World) (v1 v2 : Value) : ∃ W0,W0=(w.alloc (.cells #[v1,v2] 27)).alloc (.cells #[.slice none 0 0,.slice none 0 0] 27) /\
    W0.heap[w.heap.size]? = some (.cells #[v1,v2] 27 (0,0))/\W0.heap[w.heap.size+1]? = some (.cells #[.slice none 0 0,.slice none 0 0] 27 (0,0))/\Below w.heap.size w W0/\W0.heap.size=w.heap.size+1+1:=by
  have s1 : (w.alloc (.cells #[v1,v2] 27)).heap.size=w.heap.size+1:=by simp
  have a1:=heap_alloc_new w (.cells #[v1,v2] 27);have a2:=heap_alloc_new (w.alloc (.cells #[v1,v2] 27)) (.cells #[.slice none 0 0,.slice none 0 0] 27);rw [s1] at a2;exact ⟨_,rfl,(Below.heap_alloc _ _ _ (by rw [s1];omega)).trans a1,a2,za3 (za3 (Below.refl _ _)),by simp⟩
theorem zcd (w W : World) (u1 u2 x y : Value) (b : Nat) (cs ps : List Int) (hb : w.heap.size<=b) (k : W.heap[b]? = some (.cells #[x,y] 27 (0,0))) (own : OwnP (b+1) W u1 u2 cs ps) (d : Below w.heap.size w W) :
    ((W.setCell ⟨b,0,none⟩ u1).setCell ⟨b,1,none⟩ u2).heap[b]? = some (.cells #[u1,u2] 27 (0,0))/\OwnP w.heap.size ((W.setCell ⟨b,0,none⟩ u1).setCell ⟨b,1,none⟩ u2) u1 u2 cs ps/\Below w.heap.size w ((W.setCell ⟨b,0,none⟩ u1).setCell ⟨b,1,none⟩ u2):=by
  obtain ⟨h1,h2⟩:=zcp k u1 u2;exact ⟨h1,(own.upto h2 (by omega)).mono (by omega),d.trans (h2.toBelow d.size (by omega))⟩
theorem zp8 {w W0 w5 w6 : World} {v5 v6 : Value} {cs ps : List Int} (d0 : Below w.heap.size w W0) (z0 : W0.heap.size=w.heap.size+1+1) (own5 : w5.ownsRow W0.drew.heap.size 2 1 v5 cs.length (cs.map (Value.int .i64))) (b5 : Below W0.drew.heap.size W0.drew w5)
    (own6 : w6.ownsRow w5.heap.size 2 1 v6 ps.length (ps.map (Value.int .i64))) (b6 : Below w5.heap.size w5 w6) {x y : Value} (k : w6.heap[w.heap.size+1]? = some (.cells #[x,y] 27 (0,0))) :
    ((w6.setCell ⟨w.heap.size+1,0,none⟩ v5).setCell ⟨w.heap.size+1,1,none⟩ v6).heap[w.heap.size+1]? = some (.cells #[v5,v6] 27 (0,0))/\OwnP w.heap.size ((w6.setCell ⟨w.heap.size+1,0,none⟩ v5).setCell ⟨w.heap.size+1,1,none⟩ v6) v5 v6 cs ps/\Below w.heap.size w ((w6.setCell ⟨w.heap.size+1,0,none⟩ v5).setCell ⟨w.heap.size+1,1,none⟩ v6):=by
  have hz : W0.drew.heap.size=w.heap.size+1+1:=z0;have h5:=b5.size;refine zcd w w6 v5 v6 x y (w.heap.size+1) cs ps (by omega) k ⟨zah (za9 own5 b6) (by omega),zah own6 (by omega),fun g h1 h2=>?_⟩ (za1 (za1 (zar d0) b5) b6);have:=(own5.lt g h1).2;have:=(own6.lt g h2).1
  omega
theorem zkm {w W0 : World} {M : Array Value} {m : Nat} {x y : Value} (k0 : W0.heap[w.heap.size]? = some (.cells #[x,y] 27 (0,0))) (d0 : Below w.heap.size w W0) (z0 : W0.heap.size=w.heap.size+1)
    (hown : ∀ (W : World) (base : Nat),base<=W.heap.size->(W.alloc (.cells M 2)).ownsRow base 2 1 (.slice (some ⟨W.heap.size,0,none⟩) m m) m ((List.replicate m (0 : Int)).map (Value.int .i64)))
    (a b : Nat) (hab : (a=w.heap.size+1/\b=w.heap.size+1+1)\/(a=w.heap.size+1+1/\b=w.heap.size+1)) :
    (((((W0.setCell ⟨w.heap.size,0,none⟩ (.slice (some ⟨a,0,none⟩) m m)).setCell ⟨w.heap.size,1,none⟩ (.slice (some ⟨b,0,none⟩) m m)).alloc (.cells M 2)).alloc (.cells M 2)).drew).heap[w.heap.size]? = some (.cells #[.slice (some ⟨a,0,none⟩) m m,.slice (some ⟨b,0,none⟩) m m] 27 (0,0)) /\
    OwnP w.heap.size (((((W0.setCell ⟨w.heap.size,0,none⟩ (.slice (some ⟨a,0,none⟩) m m)).setCell ⟨w.heap.size,1,none⟩ (.slice (some ⟨b,0,none⟩) m m)).alloc (.cells M 2)).alloc (.cells M 2)).drew) (.slice (some ⟨a,0,none⟩) m m) (.slice (some ⟨b,0,none⟩) m m) (List.replicate m 0) (List.replicate m 0) /\
    Below w.heap.size w (((((W0.setCell ⟨w.heap.size,0,none⟩ (.slice (some ⟨a,0,none⟩) m m)).setCell ⟨w.heap.size,1,none⟩ (.slice (some ⟨b,0,none⟩) m m)).alloc (.cells M 2)).alloc (.cells M 2)).drew):=by
  obtain ⟨h1,h2⟩:=zcp k0 (.slice (some ⟨a,0,none⟩) m m) (.slice (some ⟨b,0,none⟩) m m);generalize hW : (W0.setCell ⟨w.heap.size,0,none⟩ (.slice (some ⟨a,0,none⟩) m m)).setCell ⟨w.heap.size,1,none⟩ (.slice (some ⟨b,0,none⟩) m m)=W1 at h1 h2 ⊢;have s1 : W1.heap.size=w.heap.size+1:=by rw [<- hW,World.size_setCell,World.size_setCell,z0]
  clear hW;have s2 : (W1.alloc (.cells M 2)).heap.size=w.heap.size+1+1:=by simp [s1]
  have o1:=hown W1 w.heap.size (by omega);have o2:=hown (W1.alloc (.cells M 2)) w.heap.size (by omega);rw [s1] at o1;rw [s2] at o2;have o3:=o1.alloc (.cells M 2);have e1:=(Below.heap_alloc (W1.alloc (.cells M 2)) (.cells M 2) w.heap.size (by omega)).trans ((Below.heap_alloc W1 (.cells M 2) w.heap.size (by omega)).trans h1);have hl : (List.replicate m (0 : Int)).length=m:=by simp
  refine ⟨e1,?_,zar (za3 (za3 (d0.trans (h2.toBelow (by omega) (Nat.le_refl _)))))⟩
  rcases hab with ⟨rfl,rfl⟩ | ⟨rfl,rfl⟩
  · exact ⟨by rw [hl];exact o3,by rw [hl];exact o2,fun g q=>by simp [Value.ownBlock] at q ⊢;omega⟩
  · exact ⟨by rw [hl];exact o2,by rw [hl];exact o3,fun g q=>by simp [Value.ownBlock] at q ⊢;omega⟩
theorem zk3 (n : Int) (w : World) :
    Calls Tryz.prog 177 #[.int .i64 n] w fun e w'=>∃ u1 u2 : Value,e = .returned (.tuple #[.agg #[u1,u2],.bool (zao n).2])/\OwnP w.heap.size w' u1 u2 (zao n).1.1 (zao n).1.2/\Below w.heap.size w w':=by
  obtain ⟨W0,hW0,k0,d0,z0⟩:=zl4 w (.slice none 0 0) (.slice none 0 0) 27;have HW0 : Hid (W0 = _):=hW0;obtain ⟨p0,p1⟩:=cq2 k0;obtain ⟨f0,f1⟩:=oq2 k0;clear hW0;cases hn : (decide ((1 : Int)<=n) && decide (n<=24))
  · have hv : zao n=(([],[]),false):=by
      unfold zao;rw [if_neg];rintro ⟨h1,h2⟩;simp [h1,h2] at hn
    rw [hv];have HS : Hid _:=zcd w W0 (.slice none 0 0) (.slice none 0 0) _ _ w.heap.size [] [] (Nat.le_refl _) k0 (OwnP.nil _ _) d0;clear hv k0
    go_enter Tryz.func177,Tryz.ntmps177
    go_wp2_with fail
    rw [<- HW0.out];refine (zb3 _ _ _ _).mono ?_;rintro e w' ⟨rfl,rfl⟩;rw [hn]
    go_wp2_with fail
    exact bodyPost_ret (v:=.tuple #[.agg #[.slice none 0 0,.slice none 0 0],.bool false]) (by simp [results,Tryz.results177,go_sem,za0 HS.out.1]) rfl ⟨_,_,rfl,HS.out.2⟩
  · have hb : 1<=n/\n<=24:=by simpa using hn
    obtain ⟨m,rfl⟩:=Int.eq_ofNat_of_zero_le (show 0<=n by omega)
    have hv : zao (m : Int)=((List.replicate m 0,List.replicate m 0),true):=by
      unfold zao;rw [if_pos hb,Int.toNat_natCast]
    rw [hv];obtain ⟨M,hM,hmk,hown⟩:=zfr m (by omega);clear hv
    go_enter Tryz.func177,Tryz.ntmps177
    go_wp2_with fail
    rw [<- HW0.out];refine (zb3 _ _ _ _).mono ?_;rintro e w' ⟨rfl,rfl⟩;rw [hn]
    go_wp2_with fail
    go_region
    · have HS : Hid _:=zkm k0 d0 z0 hown (w.heap.size+1) (w.heap.size+1+1) (.inl ⟨rfl,rfl⟩)
      clear k0 d0 hown hmk HW0
      go_wp2_with fail
      exact bodyPost_ret (v:=.tuple #[.agg #[.slice (some ⟨w.heap.size+1,0,none⟩) m m,.slice (some ⟨w.heap.size+1+1,0,none⟩) m m],.bool true]) (by simp [results,Tryz.results177,go_sem,za0 HS.out.1]) rfl ⟨_,_,rfl,HS.out.2⟩
    · have HS : Hid _:=zkm k0 d0 z0 hown (w.heap.size+1+1) (w.heap.size+1) (.inr ⟨rfl,rfl⟩)
      clear k0 d0 hown hmk HW0
      go_wp2_with fail
      exact bodyPost_ret (v:=.tuple #[.agg #[.slice (some ⟨w.heap.size+1+1,0,none⟩) m m,.slice (some ⟨w.heap.size+1,0,none⟩) m m],.bool true]) (by simp [results,Tryz.results177,go_sem,za0 HS.out.1]) rfl ⟨_,_,rfl,HS.out.2⟩
theorem zfb (rs : List (Int × Int × Int)) : (pagesOf rs).length<=16:=by
  unfold pagesOf
  split
  · have:=List.length_filter_le (fun p=>decide (0<=p)) (za7 rs)
    rw [zac] at this;exact this
  · simp
theorem zj6 (n : Int) (w : World) :
    Calls Tryz.prog 133 #[.int .i64 n] w fun e w'=>∃ u1 u2 : Value,e = .returned (.tuple #[.agg #[u1,u2,.slice none 0 0],.bool (zao n).2])/\OwnP w.heap.size w' u1 u2 (zao n).1.1 (zao n).1.2/\Below w.heap.size w w':=by
  obtain ⟨W0,hW0,k0,d0,z0⟩:=zb4 w #[.slice none 0 0,.slice none 0 0,.slice none 0 0] 30;have HW0 : Hid (W0 = _):=hW0;have l0:=za2 k0;clear hW0 z0
  go_enter Tryz.func133,Tryz.ntmps133
  go_wp2_with fail
  rw [<- HW0.out];clear HW0;refine (zk3 n _).mono ?_;rintro e w1 ⟨u1,u2,rfl,own,b1⟩;replace k0:=(b1.block _ l0).trans k0;replace d0:=za1 d0 b1
  obtain ⟨⟨⟨zc,zp⟩,made⟩,hz⟩ : ∃ x,zao n=x:=⟨_,rfl⟩
  have HZ : Hid (zao n=((zc,zp),made)):=hz;rw [hz] at own ⊢;simp only at own ⊢;clear hz;obtain ⟨o1,c1,e1⟩:=za4 own.c;obtain ⟨o2,c2,e2⟩:=za4 own.p;subst e1 e2;have hlt : w.heap.size < w1.heap.size:=Nat.lt_of_lt_of_le l0 b1.size;have u : Upto w.heap.size w1 (((w1.setCell ⟨w.heap.size,0,none⟩ (.slice o1 zc.length c1)).setCell ⟨w.heap.size,1,none⟩ (.slice o2 zp.length c2)).setCell ⟨w.heap.size,2,none⟩ (.slice none 0 0)):=(((Upto.refl _ _).setCell ⟨w.heap.size,0,none⟩ (.inl rfl) _).setCell ⟨w.heap.size,1,none⟩ (.inl rfl) _).setCell ⟨w.heap.size,2,none⟩ (.inl rfl) _;have k3:=zab (zab (zab k0 0 (.slice o1 zc.length c1)) 1 (.slice o2 zp.length c2)) 2 (.slice none 0 0);have own3:=own.upto u l0;have d3:=d0.trans (u.toBelow (by omega) (Nat.le_refl _));have bP : Below (((w1.setCell ⟨w.heap.size,0,none⟩ (.slice o1 zc.length c1)).setCell ⟨w.heap.size,1,none⟩ (.slice o2 zp.length c2)).setCell ⟨w.heap.size,2,none⟩ (.slice none 0 0)).heap.size (((w1.setCell ⟨w.heap.size,0,none⟩ (.slice o1 zc.length c1)).setCell ⟨w.heap.size,1,none⟩ (.slice o2 zp.length c2)).setCell ⟨w.heap.size,2,none⟩ (.slice none 0 0)) ((((w1.setCell ⟨w.heap.size,0,none⟩ (.slice o1 zc.length c1)).setCell ⟨w.heap.size,1,none⟩ (.slice o2 zp.length c2)).setCell ⟨w.heap.size,2,none⟩ (.slice none 0 0)).alloc (.cells #[.slice o1 zc.length c1,.slice o2 zp.length c2] 27)):=za3 (Below.refl _ _);have HS : Hid _:=And.intro (kb0 bP k3) (And.intro ((own3.below bP).mono (Nat.le_of_lt l0)) (za1 d3 bP));obtain ⟨q0,q1,q2⟩:=cq3 k0;obtain ⟨f0,f1,f2⟩:=oq3 k0;clear bP d3 own3 k3 u own d0 k0 b1
  go_wp2_with fail
  exact bodyPost_ret (v:=.tuple #[.agg #[.slice o1 zc.length c1,.slice o2 zp.length c2,.slice none 0 0],.bool made]) (by simp [results,Tryz.results133,go_sem,za0 HS.out.1]) rfl ⟨.slice o1 zc.length c1,.slice o2 zp.length c2,by rw [HZ.out],by rw [HZ.out];exact HS.out.2.1,HS.out.2.2⟩
end Go.Proofs.YtfkkapdofjhgpaaGreatDoor
