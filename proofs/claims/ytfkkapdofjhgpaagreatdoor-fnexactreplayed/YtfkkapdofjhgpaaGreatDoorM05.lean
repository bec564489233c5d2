import Derived.Test.YtfkkapdofjhgpaaGreatDoorM01
import Derived.Test.YtfkkapdofjhgpaaGreatDoorM02
import Derived.Test.YtfkkapdofjhgpaaGreatDoorM04
set_option maxHeartbeats 12800000
namespace Go.Proofs.YtfkkapdofjhgpaaGreatDoor
open Go.RowKit
set_option linter.unusedVariables false
set_option maxRecDepth 100000
def cutMid (l : List Int) (s k : Nat) : List Int:=(List.range 16).map fun j : Nat=>if s<=j/\j < k then -1 else l.getD j 0
theorem zcw (l : List Int) (s k : Nat) : (cutMid l s k).length=16:=by simp [cutMid]
theorem zg5 (l : List Int) (s k j : Nat) (hj : j < 16) : (cutMid l s k).getD j 0=if s<=j/\j < k then -1 else l.getD j 0:=by
  rw [List.getD_eq_getElem?_getD,cutMid,List.getElem?_map,List.getElem?_range hj];rfl
theorem znx (l : List Int) (s : Nat) (hl : l.length=16) : cutMid l s s=l :=
  zs9 _ _ (zcw _ _ _) hl fun j hj=>by rw [zg5 l s s j hj,if_neg (by omega)]
theorem zou (l : List Int) (s k : Nat) (h : s<=k) (hk : k < 16) : (cutMid l s k).set k (-1)=cutMid l s (k+1) :=
  zs9 _ _ (by rw [List.length_set,zcw]) (zcw _ _ _) fun j hj=>by
    rw [zg4 _ _ _ _ (by rw [zcw];exact hk),zg5 l s k j hj,zg5 l s (k+1) j hj];by_cases e : k=j
    · rw [if_pos e,if_pos (by omega)]
    · rw [if_neg e]
      by_cases q : s<=j/\j < k
      · rw [if_pos q,if_pos (by omega)]
      · rw [if_neg q,if_neg (by omega)]
theorem cutAt_length (l : List Int) (n : Int) : (cutAt l n).length=16:=by simp [cutAt]
theorem zfq (l : List Int) (n : Int) (j : Nat) (hj : j < 16) : (cutAt l n).getD j 0=if (j : Int) < n then l.getD j 0 else -1:=by
  rw [List.getD_eq_getElem?_getD,cutAt,List.getElem?_map,List.getElem?_range hj];rfl
theorem zqx (l : List Int) (n : Int) (s k : Nat) (hs : (s : Int)=max 0 n) (hk : 16<=k) : cutMid l s k=cutAt l n :=
  zs9 _ _ (zcw _ _ _) (cutAt_length _ _) fun j hj=>by
    rw [zg5 l s k j hj,zfq l n j hj];by_cases e : (j : Int) < n
    · rw [if_pos e,if_neg (by omega)]
    · rw [if_neg e,if_pos (by omega)]
theorem zgm (rs : List (Int × Int × Int)) (h : mapOk rs=true) (n : Int) : ∀ j,j < 16->-1<=(cutAt (za7 rs) n).getD j 0/\(cutAt (za7 rs) n).getD j 0<=23:=fun j hj=>by
  rw [zfq _ _ _ hj];by_cases e : (j : Int) < n
  · rw [if_pos e];exact zbg rs h j hj
  · rw [if_neg e];omega
theorem zsv (a b : Int) (w : World) :
    Calls Tryz.prog 197 #[.int .i64 a,.int .i64 b] w fun e w'=>e = .returned (.int .i64 (max a b))/\w'=w:=by
  by_cases h : a > b
  · have h2 : b < a:=h
    go_enter Tryz.func197,Tryz.ntmps197
    go_wp2
    go_ret;exact ⟨zam (by show a=max a b;omega),rfl⟩
  · have h2 : ¬ b < a:=h
    go_enter Tryz.func197,Tryz.ntmps197
    go_wp2
    go_ret;exact ⟨zam (by show b=max a b;omega),rfl⟩
theorem zov (v : Value) (rs : List (Int × Int × Int)) (size : Int) (w : World) (hsz : -9223372036854775808<=size/\size<=9223372036854775807) (hok : mapOk rs=true) (r : ReadsR 3 zak w.heap.size w v rs) :
    Calls Tryz.prog 178 #[v,.int .i64 size] w fun e w'=>∃ v' : Value,e = .returned v'/\w'.ownsRow w.heap.size 172 3 v' (mapOf (cutAt (za7 rs) size)).length ((mapOf (cutAt (za7 rs) size)).flatMap zak)/\v' ≠ .slice none 0 0/\Below w.heap.size w w':=by
  have HOK : Hid _:=hok;clear hok
  go_enter Tryz.func178,Tryz.ntmps178
  go_wp2_with fail
  refine (zco v rs _ HOK.out r).mono ?_;rintro e w1 ⟨g,cp,rfl,own,b1⟩;have bs:=b1.size
  go_wp2_with fail
  refine (zsv 0 size _).mono ?_;rintro e w2 ⟨rfl,rfl⟩
  obtain ⟨S,hS⟩ : ∃ S : Nat,max 0 size=S:=⟨(max 0 size).toNat,by omega⟩
  rw [hS];have HS : Hid ((S : Int)=max 0 size):=hS.symm;have hSb : (S : Int)<=9223372036854775807:=by omega
  rw [<- znx (za7 rs) S (zac rs)] at own;clear hS
  go_wp2_with fail
  go_loopw [6] (fun i wr=>∃ k : Nat,S<=k/\(k<=16\/k=S)/\i = .int .i64 k/\wr.ownsRow w.heap.size 2 1 (.slice (some ⟨g,0,none⟩) 16 cp) 16 ((cutMid (za7 rs) S k).map (Value.int .i64))/\Below w.heap.size w wr) (fun i _=>16 - (intOf i).toNat)
  case atStart=>exact ⟨S,Nat.le_refl _,.inr rfl,rfl,own,b1⟩
  case round =>
    clear own b1;obtain ⟨k,hSk,hk,rfl,own,hb⟩:=hrel;by_cases hlt : k < 16
    · have hcl:=zcw (za7 rs) S k
      have c0:=own.cellAt k (by omega);have c1:=own.frozenAt k;rw [List.getElem?_map,List.getElem?_eq_getElem (show k < (cutMid (za7 rs) S k).length by omega)] at c0;simp only [Option.map_some] at c0;have hst:=(own.stored k (.int .i64 (-1))).1;rw [<- List.map_set,zou (za7 rs) S k hSk hlt] at hst;have hbf : Below w.heap.size w (wr.setCell ⟨g,k,none⟩ (.int .i64 (-1))):=zb8 (p:=⟨g,k,none⟩) hb (own.lt g rfl).1 _;have HO : Hid _:=And.intro hst hbf;generalize (cutMid (za7 rs) S k)[k]=y at c0;clear own hst hbf hcl;have h0 : (0 : Int)<=(k : Int):=by omega
      have h1 : (k : Int) < 16:=by omega
      go_wp2_with fail
      go_roundw
      case rel=>exact ⟨k+1,by omega,by omega,by go_num,HO.out.1,HO.out.2⟩
      case measure=>simp [intOf];omega
    · have h1 : ¬ (k : Int) < 16:=by omega
      rw [zqx (za7 rs) size S k HS.out (by omega)] at own;have HRD : Hid _:=Reads.of_own own;have hbs:=hb.size;clear own
      go_wp2_with fail
      refine (zha _ (cutAt (za7 rs) size) _ (cutAt_length _ _) (zgm rs HOK.out size) HRD.out).mono ?_;rintro e w5 ⟨v',rfl,own5,hnn,b5⟩;have HF : Hid (w5.ownsRow w.heap.size 172 3 v' (mapOf (cutAt (za7 rs) size)).length ((mapOf (cutAt (za7 rs) size)).flatMap zak)):=zah own5 hbs;have hb5:=za1 hb b5;clear own5 b5
      go_wp2_with fail
      go_ret;exact ⟨v',rfl,HF.out,hnn,hb5⟩
theorem zjn (l : List Int) (k : Nat) (h : k < l.length) : (l.take (k+1)).filter (fun p=>decide (0<=p))=(l.take k).filter (fun p=>decide (0<=p)) ++ (if 0<=l[k] then [l[k]] else []):=by
  rw [List.take_succ_eq_append_getElem h,List.filter_append];by_cases e : 0<=l[k] <;> simp [e]
theorem zow (v : Value) (rs : List (Int × Int × Int)) (w : World) (hok : mapOk rs=true) (r : ReadsR 3 zak w.heap.size w v rs) :
    Calls Tryz.prog 92 #[v] w fun e w'=>∃ v' : Value,e = .returned v'/\w'.ownsRow w.heap.size 2 1 v' ((za7 rs).filter (fun p=>decide (0<=p))).length (((za7 rs).filter (fun p=>decide (0<=p))).map (Value.int .i64))/\v' ≠ .slice none 0 0/\Below w.heap.size w w':=by
  obtain ⟨i0,hi,hz0,hz1,hz2⟩:=info_parts Tryz.infoI64;have HOK : Hid _:=hok;have own0 : (w.alloc (.cells #[] 2)).ownsRow w.heap.size 2 1 (.slice (some ⟨w.heap.size,0,none⟩) 0 0) 0 []:=World.ownsRow_lit w #[] 0 (Nat.le_refl _) (Nat.zero_le _) rfl;have d0 : Below w.heap.size w (w.alloc (.cells #[] 2)):=za3 (Below.refl _ _);have r0:=(r.below d0).mono d0.size;have hW : w.heap.size < (w.alloc (.cells #[] 2)).heap.size:=by simp
  clear hok r
  go_enter Tryz.func92,Tryz.ntmps92
  go_wp2_with fail
  generalize w.alloc (.cells #[] 2)=W0 at *;refine (zco v rs _ HOK.out r0).mono ?_;rintro e w1 ⟨g,cp,rfl,own,b1⟩;have own1:=za9 own0 b1;have d1:=za1 d0 b1;have hg:=own.lt g rfl;have hpl:=zac rs
  have HCELL : Hid (∀ j,j < 16->w1.cell? ⟨g,j,none⟩=some (.int .i64 ((za7 rs).getD j 0))):=fun j hj=>by
    have c0:=own.cellAt j (by omega);rw [List.getElem?_map,List.getElem?_eq_getElem (show j < (za7 rs).length by omega)] at c0;rw [c0,List.getD_eq_getElem?_getD,List.getElem?_eq_getElem (show j < (za7 rs).length by omega)]
    rfl
  obtain ⟨L,hL⟩ : ∃ L,za7 rs=L:=⟨_,rfl⟩
  rw [hL] at HCELL hpl;have HLL : Hid (za7 rs=L):=hL;have HPL : Hid (L.length=16):=hpl;clear hL;clear own0 d0 b1 own r0 hpl
  go_wp2_with fail
  go_loopw [3,5] (fun q i wr=>∃ (k b cq : Nat) (xs : List Int),k<=16/\i = .int .i64 k/\xs=(L.take k).filter (fun p=>decide (0<=p))/\q = .slice (some ⟨b,0,none⟩) xs.length cq/\b ≠ g/\wr.ownsRow w.heap.size 2 1 (.slice (some ⟨b,0,none⟩) xs.length cq) xs.length (xs.map (Value.int .i64))/\(∀ j,j < 16->wr.cell? ⟨g,j,none⟩=some (.int .i64 (L.getD j 0)))/\g < wr.heap.size/\Below w.heap.size w wr) (fun _ i _=>16 - (intOf i).toNat)
  case atStart=>exact ⟨0,w.heap.size,0,[],Nat.zero_le _,rfl,by simp,rfl,by omega,own1,HCELL.out,hg.2,d1⟩
  case round =>
    clear own1 d1 HCELL hg;obtain ⟨k,b,cq,xs,hk,rfl,hxs,rfl,hbg,own,hcell,hgs,hb⟩:=hrel;have HXS : Hid _:=hxs;by_cases hlt : k < 16
    · have c0:=hcell k hlt
      have HCE : Hid _:=hcell
      have hxl : xs.length<=16:=by
        rw [hxs];have h1 : ((L.take k).filter (fun p=>decide (0<=p))).length<=(L.take k).length:=List.length_filter_le _ _;rw [List.length_take] at h1
        omega
      have hft:=zjn L k (by have:=HPL.out;omega);rw [<- hxs] at hft;have hgd : L.getD k 0=L[k]'(by have:=HPL.out;omega):=by rw [List.getD_eq_getElem?_getD,List.getElem?_eq_getElem (by have:=HPL.out;omega)];rfl
      rw [<- hgd] at hft;have HFT : Hid _:=hft;clear hft hgd hcell hxs;generalize L.getD k 0=z at c0 HFT;have h0 : (0 : Int)<=(k : Int):=by omega
      have h1 : (k : Int) < 16:=by omega
      by_cases hz : 0<=z
      · have HN : Hid (xs ++ [z]=(L.take (k+1)).filter (fun p=>decide (0<=p))):=by rw [Hid,HFT.out,if_pos hz]
        have hgne : ¬ g=wr.heap.size:=by omega
        go_wp2_with (at_builtin;refine zhj rfl _ _ 25 rfl w.heap.size 2 i0 (.int .i64 0) 1 8 Tryz.underlying25 hi hz0 hz1 hz2 rfl (by decide) _ _ _ rfl (own.alloc _) ⟨wr.heap.size,0,none⟩ 1 1 [.int .i64 z] rfl rfl ?c1 ?c2 ?c3 ?c4 ?c5 ?_)
        case c1=>exact zkj _ _ _
        case c2=>intro u hu;simp at hu;subst hu;rfl
        case c3=>unfold maxLen;omega
        case c4=>omega
        case c5=>have:=hb.size;simp;omega
        intro v' w3 hown' hgrow hnil hfr;have own3 : w3.ownsRow w.heap.size 2 1 v' (xs ++ [z]).length ((xs ++ [z]).map (Value.int .i64)):=by simpa using hown'
        obtain ⟨b',cq',hv'⟩ : ∃ b' cq',v' = .slice (some ⟨b',0,none⟩) (xs ++ [z]).length cq':=by
          rcases own3.2 with ⟨e,_⟩ | ⟨b',cq',_,e,_⟩
          · exact absurd e hnil
          · exact ⟨b',cq',e⟩
        have hbg' : b' ≠ g:=fun e=>by
          rcases hfr b' (by rw [hv'];rfl) with h | h
          · simp [Value.ownBlock] at h;omega
          · first | omega | (simp at h;omega)
        have hblk : ∀ j,j < 16->w3.cell? ⟨g,j,none⟩=some (.int .i64 (L.getD j 0)):=fun j hj=>by
          refine hgrow.cell (a:=⟨g,j,none⟩) ?_ (by simp [Value.ownBlock];omega);exact (Below.cell (za3 (Below.refl _ _)) (p:=⟨g,j,none⟩) hgs).trans (HCE.out j hj)
        have hb3 : Below w.heap.size w w3:=(za3 hb).grown hgrow (by have:=hb.size;simp;omega) (fun q hq=>(own.lt q (by simpa [Value.ownBlock] using hq)).1);have hgs3 : g < w3.heap.size:=by have:=hgrow.size;simp at this;omega
        subst hv';have HO : Hid _:=And.intro own3 (And.intro hblk (And.intro hgs3 hb3));clear hown' hgrow hnil hfr own3 hblk hgs3 hb3 own
        go_wp2_with fail
        go_roundw
        case rel=>exact ⟨k+1,b',cq',xs ++ [z],by omega,by go_num,HN.out,by simp,hbg',HO.out.1,HO.out.2.1,HO.out.2.2.1,HO.out.2.2.2⟩
        case measure=>simp [intOf];omega
      · have HN : Hid (xs=(L.take (k+1)).filter (fun p=>decide (0<=p))):=by rw [Hid,HFT.out,if_neg hz,List.append_nil]
        go_wp2_with fail
        go_roundw
        case rel=>exact ⟨k+1,b,cq,xs,by omega,by go_num,HN.out,rfl,hbg,own,HCE.out,hgs,hb⟩
        case measure=>simp [intOf];omega
    · obtain rfl : k=16:=by omega
      have hfin : L.take 16=L:=List.take_of_length_le (by rw [HPL.out];exact Nat.le_refl _);rw [hfin] at hxs;have HXL : Hid (xs=L.filter (fun p=>decide (0<=p))):=hxs;clear hxs hcell HXS hfin
      go_wp2_with fail
      go_ret;rw [HLL.out,<- HXL.out];exact ⟨_,rfl,own,by simp,hb⟩
end Go.Proofs.YtfkkapdofjhgpaaGreatDoor
namespace Go.Proofs.YtfkkapdofjhgpaaGreatDoor
set_option linter.unusedVariables false
set_option maxRecDepth 100000
theorem zv6 (l : List Int) (h1 : l.length=16) (h2 : ∀ j,j < 16->-1<=l.getD j 0/\l.getD j 0<=23) : zb9 (mapOf l):=fun r hr=>by
  have:=zet _ 0 none (zcq (zks l h1 h2).1) (by omega) r hr;refine ⟨⟨?_,?_⟩,⟨?_,?_⟩,⟨?_,?_⟩⟩ <;> omega
theorem zx0 : zb9 []:=fun r hr=>by cases hr
theorem zsw (rs : List (Int × Int × Int)) (size : Int) : zb9 (belowM rs size):=by
  unfold belowM;by_cases h : mapOk rs=true
  · rw [if_pos h];exact zv6 _ (cutAt_length _ _) (zgm rs h size)
  · rw [if_neg h];exact zx0
end Go.Proofs.YtfkkapdofjhgpaaGreatDoor
namespace Go.Proofs.YtfkkapdofjhgpaaGreatDoor
open Go.RowKit
set_option linter.unusedVariables false
set_option maxRecDepth 100000
def ltB (a b : ByteArray) : Bool:=Op.bytesLess a.toList b.toList
theorem zox (x : List UInt8) : Op.bytesLess x x=false:=by
  induction x with
  | nil=>rfl
  | cons a t ih=>simp [Op.bytesLess,ih]
theorem zqy : ∀ (x y z : List UInt8),Op.bytesLess x y=true->Op.bytesLess y z=true->Op.bytesLess x z=true:=by
  intro x
  induction x with
  | nil =>
    intro y z h1 h2
    cases z with
    | nil=>cases y <;> simp [Op.bytesLess] at h2
    | cons c w=>rfl
  | cons a t ih =>
    intro y z h1 h2
    cases y with
    | nil=>simp [Op.bytesLess] at h1
    | cons b u =>
      cases z with
      | nil=>simp [Op.bytesLess] at h2
      | cons c w =>
        simp only [Op.bytesLess,Bool.or_eq_true,decide_eq_true_eq,Bool.and_eq_true,beq_iff_eq] at h1 h2 ⊢
        rcases h1 with h1 | ⟨rfl,h1⟩
        · rcases h2 with h2 | ⟨rfl,h2⟩
          · exact .inl (UInt8.lt_trans h1 h2)
          · exact .inl h1
        · rcases h2 with h2 | ⟨rfl,h2⟩
          · exact .inl h2
          · exact .inr ⟨rfl,ih u w h1 h2⟩
theorem zqz : ∀ (x y : List UInt8),Op.bytesLess x y=false->Op.bytesLess y x=false->x=y:=by
  intro x
  induction x with
  | nil =>
    intro y h1 h2
    cases y with
    | nil=>rfl
    | cons b u=>simp [Op.bytesLess] at h1
  | cons a t ih =>
    intro y h1 h2
    cases y with
    | nil=>simp [Op.bytesLess] at h2
    | cons b u =>
      simp only [Op.bytesLess,Bool.or_eq_false_iff,decide_eq_false_iff_not,Bool.and_eq_false_iff,beq_eq_false_iff_ne] at h1 h2
      have hab : a=b:=by
        rcases UInt8.lt_or_eq_of_le (UInt8.not_lt.1 h1.1) with h | h
        · exact absurd h h2.1
        · exact h.symm
      subst hab;rw [ih u (h1.2.resolve_left (fun h=>h rfl)) (h2.2.resolve_left (fun h=>h rfl))]
theorem zr0 (a : ByteArray) : ltB a a=false:=zox _
theorem zhb {a b c : ByteArray} (h1 : ltB a b=true) (h2 : ltB b c=true) : ltB a c=true:=zqy _ _ _ h1 h2
theorem zj1 {a b : ByteArray} (h : ltB a b=true) : ltB b a=false:=by
  rw [Bool.eq_false_iff];intro h2;have:=zhb h h2;rw [zr0] at this;cases this
theorem toList_inj {a b : ByteArray} (h : a.toList=b.toList) : a=b:=by
  apply zot
  rwa [ByteArray.toList_eq,ByteArray.toList_eq] at h
theorem zn8 {a b : ByteArray} (h1 : ltB a b=false) (h2 : ltB b a=false) : a=b:=toList_inj (zqz _ _ h1 h2)
structure Pb where
  nm : ByteArray
  sz : Int
  rs : List (Int × Int × Int)
  fx : Bool
  ep : Int
def Pb.ok (b : Pb) : Bool:=bookOk b.nm b.sz b.rs b.ep
def Pb.cnt (b : Pb) (p : Int) : Int:=((za7 b.rs).count p : Int)
def zav (bs : List Pb) (p : Int) : Int:=bs.foldr (fun b n=>b.cnt p+n) 0
theorem zku (b : Pb) (p : Int) : 0<=b.cnt p:=by unfold Pb.cnt;omega
theorem zyl (b : Pb) (p : Int) : b.cnt p<=16:=by
  unfold Pb.cnt;have:=List.count_le_length (a:=p) (l:=za7 b.rs);rw [zac] at this
  omega
theorem cntAll_cons (b : Pb) (bs : List Pb) (p : Int) : zav (b :: bs) p=b.cnt p+zav bs p:=rfl
theorem cntAll_append (xs ys : List Pb) (p : Int) : zav (xs ++ ys) p=zav xs p+zav ys p:=by
  induction xs with
  | nil=>simp [zav]
  | cons b t ih=>rw [List.cons_append,cntAll_cons,cntAll_cons,ih];omega
theorem zcx (bs : List Pb) (p : Int) : 0<=zav bs p:=by
  induction bs with
  | nil=>simp [zav]
  | cons b t ih=>rw [cntAll_cons];have:=zku b p;omega
theorem ze5 (bs : List Pb) (p : Int) : zav bs p<=16 * bs.length:=by
  induction bs with
  | nil=>simp [zav]
  | cons b t ih=>rw [cntAll_cons,List.length_cons];have:=zyl b p;omega
theorem zej (bs : List Pb) (i : Nat) (h : i < bs.length) (p : Int) : zav bs p=zav (bs.take i) p+bs[i].cnt p+zav (bs.drop (i+1)) p:=by
  have e : bs=bs.take i ++ (bs[i] :: bs.drop (i+1)):=by rw [<- List.drop_eq_getElem_cons h,List.take_append_drop]
  have q:=congrArg (fun l=>zav l p) e;simp only [cntAll_append,cntAll_cons] at q
  omega
theorem zj2 (bs : List Pb) (i : Nat) (h : i < bs.length) (p : Int) : bs[i].cnt p<=zav bs p:=by
  have:=zej bs i h p;have:=zcx (bs.take i) p;have:=zcx (bs.drop (i+1)) p
  omega
theorem zkv (bs : List Pb) (i : Nat) (h : i < bs.length) (b : Pb) (p : Int) : zav (bs.set i b) p=zav bs p - bs[i].cnt p+b.cnt p:=by
  have h' : i < (bs.set i b).length:=by simpa using h
  have e1:=zej bs i h p;have e2:=zej (bs.set i b) i h' p;rw [List.take_set_of_le (Nat.le_refl _),List.getElem_set_self,List.drop_set_of_lt (show i < i+1 by omega)] at e2
  omega
theorem zic (bs : List Pb) (i : Nat) (h : i < bs.length) (p : Int) : zav (bs.take i ++ bs.drop (i+1)) p=zav bs p - bs[i].cnt p:=by
  rw [cntAll_append];have:=zej bs i h p
  omega
theorem cntAll_insert (bs : List Pb) (k : Nat) (b : Pb) (p : Int) : zav (bs.take k ++ [b] ++ bs.drop k) p=zav bs p+b.cnt p:=by
  rw [cntAll_append,cntAll_append,cntAll_cons];have e : zav bs p=zav (bs.take k) p+zav (bs.drop k) p:=by rw [<- cntAll_append,List.take_append_drop]
  have : zav ([] : List Pb) p=0:=rfl
  omega
structure Cells (n : Nat) (cs ps : List Int) : Prop where
  c : cs.length=n
  p : ps.length=n
  val : ∀ k,k < n->0<=ps.getD k 0/\ps.getD k 0<=999/\(cs.getD k 0=0->ps.getD k 0=0)
def dropOne (s : List Int × List Int) (p : Int) : List Int × List Int :=
  if 0<=p then (s.1.set p.toNat (s.1.getD p.toNat 0 - 1),if s.1.getD p.toNat 0=1 then s.2.set p.toNat 0 else s.2) else s
def dropAll (s : List Int × List Int) (l : List Int) : List Int × List Int:=l.foldl dropOne s
def shareAll (cs : List Int) (l : List Int) : List Int:=l.foldl (fun cs p=>cs.set p.toNat (cs.getD p.toNat 0+1)) cs
theorem zg6 {n : Nat} {cs ps : List Int} (h : Cells n cs ps) (k : Nat) (hk : k < n) (h1 : 1<=cs.getD k 0) : Cells n (dropOne (cs,ps) k).1 (dropOne (cs,ps) k).2/\∀ j,(dropOne (cs,ps) k).1.getD j 0=if k=j then cs.getD j 0 - 1 else cs.getD j 0:=by
  have hc:=h.c;have hp:=h.p;unfold dropOne;rw [if_pos (by omega : (0 : Int)<=(k : Int)),Int.toNat_natCast];simp only
  have hg : ∀ j,(cs.set k (cs.getD k 0 - 1)).getD j 0=if k=j then cs.getD j 0 - 1 else cs.getD j 0:=fun j=>by
    rw [zd2 cs k j _ (by omega)]
    split
    · rename_i e;rw [e]
    · rfl
  refine ⟨⟨by simpa using hc,by split <;> simpa using hp,fun j hj=>?_⟩,hg⟩;have hv:=h.val j hj;rw [hg];by_cases e : k=j
  · subst e
    by_cases e1 : cs.getD k 0=1
    · rw [if_pos e1,zd2 ps k k _ (by omega),if_pos rfl]
      exact ⟨by omega,by omega,fun _=>rfl⟩
    · rw [if_neg e1,if_pos rfl]
      exact ⟨hv.1,hv.2.1,fun q=>by omega⟩
  · rw [if_neg e]
    by_cases e1 : cs.getD k 0=1
    · rw [if_pos e1,zd2 ps k j _ (by omega),if_neg e]
      exact hv
    · rw [if_neg e1]
      exact hv
theorem zkw {n : Nat} (l : List Int) : ∀ {cs ps : List Int},Cells n cs ps->(∀ p ∈ l,p < n)->(∀ k,k < n->(l.count (k : Int) : Int)<=cs.getD k 0) ->
    Cells n (dropAll (cs,ps) l).1 (dropAll (cs,ps) l).2/\∀ k,k < n->(dropAll (cs,ps) l).1.getD k 0=cs.getD k 0 - (l.count (k : Int) : Int):=by
  induction l with
  | nil=>intro cs ps h _ _;exact ⟨h,fun k hk=>by simp [dropAll]⟩
  | cons p t ih =>
    intro cs ps h hp hc;have hpt : ∀ q ∈ t,q < n:=fun q hq=>hp q (List.mem_cons_of_mem _ hq)
    by_cases h0 : 0<=p
    · obtain ⟨m,rfl⟩:=Int.eq_ofNat_of_zero_le h0
      have hm : m < n:=by have:=hp (m : Int) (List.mem_cons_self ..);omega
      have h1 : 1<=cs.getD m 0:=by
        have:=hc m hm;rw [List.count_cons_self] at this
        omega
      obtain ⟨c1,g1⟩:=zg6 h m hm h1;have e : dropAll (cs,ps) ((m : Int) :: t)=dropAll ((dropOne (cs,ps) m).1,(dropOne (cs,ps) m).2) t:=rfl
      have hct : ∀ k,k < n->(t.count (k : Int) : Int)<=(dropOne (cs,ps) m).1.getD k 0:=fun k hk=>by
        have:=hc k hk;rw [List.count_cons] at this;rw [g1];by_cases ek : m=k
        · subst ek;rw [if_pos rfl];rw [beq_self_eq_true,if_pos rfl] at this;omega
        · rw [if_neg ek]
          have hne : ((m : Int) == (k : Int))=false:=by rw [beq_eq_false_iff_ne];omega
          rw [hne,if_neg (by decide)] at this
          omega
      obtain ⟨c2,g2⟩:=ih c1 hpt hct;rw [e];refine ⟨c2,fun k hk=>?_⟩;rw [g2 k hk,g1,List.count_cons];by_cases ek : m=k
      · subst ek;rw [if_pos rfl,beq_self_eq_true,if_pos rfl];omega
      · rw [if_neg ek]
        have hne : ((m : Int) == (k : Int))=false:=by rw [beq_eq_false_iff_ne];omega
        rw [hne,if_neg (by decide)]
        omega
    · have e : dropAll (cs,ps) (p :: t)=dropAll (cs,ps) t:=by
        show dropAll (dropOne (cs,ps) p) t = _
        rw [dropOne,if_neg h0]
      have hcp : ∀ k : Nat,(p :: t).count (k : Int)=t.count (k : Int):=fun k=>by
        rw [List.count_cons];have hne : (p == (k : Int))=false:=by rw [beq_eq_false_iff_ne];omega
        rw [hne,if_neg (by decide)]
        rfl
      rw [e];obtain ⟨c2,g2⟩:=ih h hpt (fun k hk=>by rw [<- hcp];exact hc k hk);exact ⟨c2,fun k hk=>by rw [g2 k hk,hcp]⟩
theorem zjo {n : Nat} (l : List Int) : ∀ {cs ps : List Int},Cells n cs ps->(∀ p ∈ l,0<=p/\p < n)->(∀ p ∈ l,1<=cs.getD p.toNat 0) ->
    Cells n (shareAll cs l) ps/\∀ k,k < n->(shareAll cs l).getD k 0=cs.getD k 0+(l.count (k : Int) : Int):=by
  induction l with
  | nil=>intro cs ps h _ _;exact ⟨h,fun k hk=>by simp [shareAll]⟩
  | cons p t ih =>
    intro cs ps h hp hc;obtain ⟨h0,hm⟩:=hp p (List.mem_cons_self ..);obtain ⟨m,rfl⟩:=Int.eq_ofNat_of_zero_le h0;have h1:=hc (m : Int) (List.mem_cons_self ..);rw [Int.toNat_natCast] at h1;have hc':=h.c
    have g1 : ∀ j,(cs.set m (cs.getD m 0+1)).getD j 0=if m=j then cs.getD j 0+1 else cs.getD j 0:=fun j=>by
      rw [zd2 cs m j _ (by omega)]
      split
      · rename_i e;rw [e]
      · rfl
    have c1 : Cells n (cs.set m (cs.getD m 0+1)) ps:=⟨by simpa using hc',h.p,fun k hk=>by
      have hv:=h.val k hk;refine ⟨hv.1,hv.2.1,fun q=>hv.2.2 ?_⟩;rw [g1] at q;by_cases e : m=k
      · subst e;rw [if_pos rfl] at q;omega
      · rwa [if_neg e] at q⟩
    have e : shareAll cs ((m : Int) :: t)=shareAll (cs.set m (cs.getD m 0+1)) t:=rfl
    obtain ⟨c2,g2⟩:=ih c1 (fun q hq=>hp q (List.mem_cons_of_mem _ hq)) (fun q hq=>by
      have:=hc q (List.mem_cons_of_mem _ hq);rw [g1]
      split <;> omega)
    rw [e];refine ⟨c2,fun k hk=>?_⟩;rw [g2 k hk,g1,List.count_cons];by_cases ek : m=k
    · subst ek;rw [if_pos rfl,beq_self_eq_true,if_pos rfl];omega
    · rw [if_neg ek]
      have hne : ((m : Int) == (k : Int))=false:=by rw [beq_eq_false_iff_ne];omega
      rw [hne,if_neg (by decide)]
      omega
theorem zsc (l : List Int) (hl : l.length=16) (hv : ∀ j,j < 16->-1<=l.getD j 0/\l.getD j 0<=23) (sz : Nat) (hs : sz<=16) (h : ∀ j,sz<=j->j < 16->l.getD j 0 < 0) : zdr (mapOf l) sz=true:=by
  have e : mapOf l=upto l sz:=by
    rw [mapOf,hl,show 16=sz+(16 - sz) by omega];exact zh9 l sz (16 - sz) (fun j h1 h2=>h j h1 (by omega))
  rw [e,zdr];have u:=znv l hl hv sz hs
  cases hq : (upto l sz).getLast? with
  | none=>rfl
  | some r=>exact decide_eq_true (u.endAt r hq).1
theorem zx1 (rs : List (Int × Int × Int)) : ∀ (e : Int) (pv : Option (Int × Int × Int)),okFrom e pv rs=true->∀ r ∈ rs,∀ z,rs.getLast? = some z->r.1+r.2.1<=z.1+z.2.1:=by
  induction rs with
  | nil=>intro e pv _ r hr;cases hr
  | cons q t ih =>
    intro e pv h r hr z hz;obtain ⟨f,c,p⟩:=q;rw [okFrom,Bool.and_eq_true,zby] at h;obtain ⟨⟨h1,h2,h3,h4,h5,h6,h7⟩,h8⟩:=h
    cases t with
    | nil =>
      simp at hz hr;subst hz hr;exact Int.le_refl _
    | cons q2 t2 =>
      rw [List.getLast?_cons_cons] at hz;rcases List.mem_cons.1 hr with rfl | hr
      · have hq2:=ih _ _ h8 q2 (List.mem_cons_self ..) z hz
        obtain ⟨f2,c2,p2⟩:=q2;rw [okFrom,Bool.and_eq_true,zby] at h8;simp only at h8 hq2 ⊢
        omega
      · exact ih _ _ h8 r hr z hz
theorem zx2 (rs : List (Int × Int × Int)) (sz : Int) (hm : mapOk rs=true) (he : zdr rs sz=true) (j : Nat) (hj : j < 16) (hs : sz<=j) : (za7 rs).getD j 0 = -1:=by
  obtain ⟨h1,-⟩:=zsa rs 0 none (zcq hm) (by omega) none16 rfl
  show (rs.foldl zc8 none16).getD j 0 = -1
  rw [h1 j ?_,zh8 j hj];intro r hr hc
  cases hq : rs.getLast? with
  | none=>rw [List.getLast?_eq_none_iff] at hq;subst hq;cases hr
  | some z =>
    have:=zx1 rs 0 none (zcq hm) r hr z hq;rw [zdr,hq] at he;have:=of_decide_eq_true he
    omega
structure Sf where
  cs : List Int
  ps : List Int
  bs : List Pb
def zdg : List ByteArray->Bool
  | a :: b :: t=>ltB a b && zdg (b :: t)
  | _=>true
theorem sorted_iff (l : List ByteArray) : zdg l=true ↔ l.Pairwise (fun a b=>ltB a b=true):=by
  induction l with
  | nil=>simp [zdg]
  | cons a t ih =>
    cases t with
    | nil=>simp [zdg]
    | cons b u =>
      rw [zdg,Bool.and_eq_true,ih]
      constructor
      · rintro ⟨h1,h2⟩
        refine List.pairwise_cons.2 ⟨fun x hx=>?_,h2⟩;rcases List.mem_cons.1 hx with rfl | hx
        · exact h1
        · exact zhb h1 ((List.pairwise_cons.1 h2).1 x hx)
      · intro h
        obtain ⟨h1,h2⟩:=List.pairwise_cons.1 h;exact ⟨h1 b (List.mem_cons_self ..),h2⟩
def countsOk (cs : List Int) (bs : List Pb) : Bool:=(List.range 24).all fun k=>if k < cs.length then decide (zav bs (k : Int)=cs.getD k 0) else decide (zav bs (k : Int)=0)
def zcj (s : Sf) : Bool:=poolOk s.cs s.ps && decide (s.bs.length<=6) && s.bs.all Pb.ok && zdg (s.bs.map Pb.nm) && countsOk s.cs s.bs
structure ShInv (s : Sf) : Prop where
  n1 : 1<=s.cs.length/\s.cs.length<=24
  cells : Cells s.cs.length s.cs s.ps
  few : s.bs.length<=6
  oks : ∀ b ∈ s.bs,b.ok=true
  srt : (s.bs.map Pb.nm).Pairwise (fun a b=>ltB a b=true)
  cnt : ∀ k : Nat,k < s.cs.length->s.cs.getD k 0=zav s.bs (k : Int)
  out : ∀ k : Nat,s.cs.length<=k->k < 24->zav s.bs (k : Int)=0
theorem zgn (s : Sf) : zcj s=true ↔ ShInv s:=by
  unfold zcj;rw [Bool.and_eq_true,Bool.and_eq_true,Bool.and_eq_true,Bool.and_eq_true,poolOk_iff,decide_eq_true_eq,List.all_eq_true,sorted_iff,countsOk,List.all_eq_true]
  constructor
  · rintro ⟨⟨⟨⟨⟨h1,h2,h3,h4⟩,h5⟩,h6⟩,h7⟩,h8⟩
    refine ⟨⟨h1,h2⟩,⟨rfl,h3,fun k hk=>?_⟩,h5,h6,h7,fun k hk=>?_,fun k hk hk2=>?_⟩
    · have:=(cellOk_iff _ _).1 (h4 k hk)
      omega
    · have:=h8 k (List.mem_range.2 (by omega))
      rw [if_pos hk,decide_eq_true_eq] at this;exact this.symm
    · have:=h8 k (List.mem_range.2 hk2)
      rwa [if_neg (by omega),decide_eq_true_eq] at this
  · intro h
    refine ⟨⟨⟨⟨⟨h.n1.1,h.n1.2,h.cells.p,fun j hj=>(cellOk_iff _ _).2 ?_⟩,h.few⟩,h.oks⟩,h.srt⟩,fun k hk=>?_⟩
    · have hv:=h.cells.val j hj
      have hc:=h.cnt j hj;have h0:=zcx s.bs (j : Int);have h1:=ze5 s.bs (j : Int);have h2:=h.few;exact ⟨by omega,by omega,hv.1,hv.2.1,hv.2.2⟩
    · have hk:=List.mem_range.1 hk
      split
      · rename_i hl;exact decide_eq_true (h.cnt k hl).symm
      · rename_i hl;exact decide_eq_true (h.out k (by omega) hk)
theorem zaw {b : Pb} (h : b.ok=true) : Nums.nameB b.nm.data.toList=true/\(1<=b.sz/\b.sz<=16)/\(0<=b.ep/\b.ep<=1000)/\mapOk b.rs=true/\zdr b.rs b.sz=true:=by
  simp only [Pb.ok,bookOk,Bool.and_eq_true,decide_eq_true_eq] at h;exact ⟨h.1.1.1.1,h.1.1.1.2,h.1.1.2,h.1.2,h.2⟩
theorem zg7 {b : Pb} (h1 : Nums.nameB b.nm.data.toList=true) (h2 : 1<=b.sz/\b.sz<=16) (h3 : 0<=b.ep/\b.ep<=1000) (h4 : mapOk b.rs=true) (h5 : zdr b.rs b.sz=true) : b.ok=true:=by
  simp only [Pb.ok,bookOk,Bool.and_eq_true,decide_eq_true_eq];exact ⟨⟨⟨⟨h1,h2⟩,h3⟩,h4⟩,h5⟩
theorem zct (l : List Int) (hl : l.length=16) (p : Int) : p ∈ l ↔ ∃ j,j < 16/\l.getD j 0=p:=by
  rw [List.mem_iff_getElem]
  constructor
  · rintro ⟨j,hj,rfl⟩;exact ⟨j,by omega,ze9 l j hj⟩
  · rintro ⟨j,hj,rfl⟩;exact ⟨j,by omega,(ze9 l j (by omega)).symm⟩
theorem ShInv.page {s : Sf} (h : ShInv s) (i : Nat) (hi : i < s.bs.length) (p : Int) (hp : p ∈ za7 s.bs[i].rs) (h0 : 0<=p) : p < s.cs.length/\1<=s.cs.getD p.toNat 0:=by
  have hm:=(zaw (h.oks _ (List.getElem_mem hi))).2.2.2.1;obtain ⟨j,hj,rfl⟩:=(zct _ (zac _) p).1 hp;have hr:=(zbg _ hm j hj).2;generalize (za7 s.bs[i].rs).getD j 0=p at *;obtain ⟨m,rfl⟩:=Int.eq_ofNat_of_zero_le h0;have hc:=zj2 s.bs i hi (m : Int)
  have h1 : 1<=s.bs[i].cnt (m : Int):=by
    unfold Pb.cnt;have:=List.count_pos_iff.2 hp
    omega
  rw [Int.toNat_natCast];by_cases hl : m < s.cs.length
  · have:=h.cnt m hl;omega
  · have:=h.out m (by omega) (by omega);omega
theorem zhc {s : Sf} (h : ShInv s) (i : Nat) (hi : i < s.bs.length) (k : Nat) (hk : k < s.cs.length) : s.bs[i].cnt (k : Int)<=s.cs.getD k 0:=by
  rw [h.cnt k hk];exact zj2 s.bs i hi _
def findP (bs : List Pb) (n : ByteArray) : Int:=zbe n (bs.map Pb.nm) 0
def zbp (bs : List Pb) (n : ByteArray) : Nat:=(bs.takeWhile fun x=>ltB x.nm n).length
def insertP (bs : List Pb) (b : Pb) : List Pb:=bs.take (zbp bs b.nm) ++ [b] ++ bs.drop (zbp bs b.nm)
def zau (bs : List Pb) (i : Int) : Pb:=bs.getD i.toNat ⟨ByteArray.empty,0,[],false,0⟩
def za5 (bs : List Pb) (o : Oq) : Int :=
  if o.k ≠ 1/\findP bs o.nm < 0 then 2
  else if (o.k=1/\0<=findP bs o.nm)\/(kOther o.k=true/\0<=findP bs o.ot) then 3
  else if o.k=1 then (if bs.length=6 then 7 else 0)
  else if kEpoch o.k=true/\o.ep < (zau bs (findP bs o.nm)).ep then 4
  else if kEpoch o.k=true/\o.k ≠ 6/\(zau bs (findP bs o.nm)).fx=true then 5
  else if kAt o.k=true/\(zau bs (findP bs o.nm)).sz<=o.at_ then 6
  else if kOther o.k=true/\bs.length=6 then 7
  else if o.k=8/\(zau bs (findP bs o.nm)).ep=1000 then 8
  else 0
def cutBook (s : Sf) (i : Nat) (size : Nat) : Sf :=
  ⟨(dropAll (s.cs,s.ps) ((za7 (zau s.bs i).rs).drop size)).1,(dropAll (s.cs,s.ps) ((za7 (zau s.bs i).rs).drop size)).2,s.bs.set i { zau s.bs i with rs:=mapOf (cutAt (za7 (zau s.bs i).rs) size) }⟩
def doWrite (s : Sf) (i : Nat) (b : Pb) (o : Oq) (page : Int) : Sf × (Int × Int) :=
  if 0<=page/\s.cs.getD page.toNat 0=1 then (⟨s.cs,s.ps.set page.toNat o.va,s.bs⟩,(0,0))
  else if zaf s.cs < s.cs.length then
    (⟨(dropOne (tookC s.cs,tookP s.cs s.ps o.va) page).1,(dropOne (tookC s.cs,tookP s.cs s.ps o.va) page).2,s.bs.set i { b with rs:=mapOf ((za7 b.rs).set o.at_.toNat (tookAt s.cs)) }⟩,(0,0))
  else (s,(9,0))
def doKind (s : Sf) (o : Oq) (i : Nat) (b : Pb) (page : Int) : Sf × (Int × Int) :=
  if o.k=9 then (s,(0,if page < 0 then 0 else s.ps.getD page.toNat 0))
  else if o.k=8 then (⟨s.cs,s.ps,s.bs.set i { b with ep:=b.ep+1 }⟩,(0,b.ep+1))
  else if o.k=7 then (⟨(cutBook s i o.va.toNat).cs,(cutBook s i o.va.toNat).ps,(cutBook s i o.va.toNat).bs.set i { zau (cutBook s i o.va.toNat).bs i with sz:=o.va }⟩,(0,0))
  else if o.k=3 then (if 0<=page then (⟨(dropOne (s.cs,s.ps) page).1,(dropOne (s.cs,s.ps) page).2,s.bs.set i { b with rs:=mapOf ((za7 b.rs).set o.at_.toNat (-1)) }⟩,(0,0)) else (s,(0,0)))
  else doWrite s i b o page
def doOp (s : Sf) (o : Oq) : Sf × (Int × Int) :=
  if opOk o=false then (s,(1,0))
  else if za5 s.bs o ≠ 0 then (s,(za5 s.bs o,0))
  else if o.k=1 then (⟨s.cs,s.ps,insertP s.bs ⟨o.nm,o.va,[],false,0⟩⟩,(0,0))
  else if o.k=6 then (⟨(cutBook s (findP s.bs o.nm).toNat 0).cs,(cutBook s (findP s.bs o.nm).toNat 0).ps,s.bs.take (findP s.bs o.nm).toNat ++ s.bs.drop ((findP s.bs o.nm).toNat+1)⟩,(0,0))
  else if kOther o.k=true then (⟨shareAll s.cs (pagesOf (zau s.bs (findP s.bs o.nm)).rs),s.ps,insertP s.bs ⟨o.ot,(zau s.bs (findP s.bs o.nm)).sz,(zau s.bs (findP s.bs o.nm)).rs,decide (o.k=4),0⟩⟩,(0,0))
  else doKind s o (findP s.bs o.nm).toNat (zau s.bs (findP s.bs o.nm)) (if o.at_ < 16 then (za7 (zau s.bs (findP s.bs o.nm)).rs).getD o.at_.toNat 0 else -1)
theorem zhd (bs : List Pb) (n : ByteArray) (h : ¬ findP bs n < 0) : ∃ (i : Nat) (hi : i < bs.length),findP bs n=i/\bs[i].nm=n:=by
  rcases zkt n (bs.map Pb.nm) 0 with h1 | ⟨h1,h2,h3⟩
  · exact absurd (show findP bs n < 0 by rw [findP,h1];omega) h
  · have hf : zbe n (bs.map Pb.nm) 0=findP bs n:=rfl
    rw [hf] at h1 h2 h3;simp only [List.length_map,Nat.sub_zero] at h2 h3;refine ⟨(findP bs n).toNat,by omega,by omega,?_⟩;rw [List.getElem?_map,List.getElem?_eq_getElem (show (findP bs n).toNat < bs.length by omega)] at h3
    simpa using h3
theorem zoy (bs : List Pb) (n : ByteArray) (h : findP bs n < 0) (b : Pb) (hb : b ∈ bs) : b.nm ≠ n:=by
  intro e;obtain ⟨j,hj,rfl⟩:=List.getElem_of_mem hb;have:=zqw n (bs.map Pb.nm) 0 j (by simp [hj,e]);have hf : zbe n (bs.map Pb.nm) 0=findP bs n:=rfl;rw [hf] at this
  omega
theorem zbz (bs : List Pb) (i : Nat) (h : i < bs.length) : zau bs i=bs[i]:=by
  unfold zau;rw [Int.toNat_natCast,List.getD_eq_getElem?_getD,List.getElem?_eq_getElem h]
  rfl
theorem zma (bs : List Pb) (b : Pb) (hs : (bs.map Pb.nm).Pairwise (fun a b=>ltB a b=true)) (hn : ∀ x ∈ bs,x.nm ≠ b.nm) : ((insertP bs b).map Pb.nm).Pairwise (fun a b=>ltB a b=true):=by
  have key : ∀ (l : List Pb),(l.map Pb.nm).Pairwise (fun a b=>ltB a b=true)->(∀ x ∈ l,x.nm ≠ b.nm)->insertP l b=(l.takeWhile fun x=>ltB x.nm b.nm) ++ [b] ++ (l.dropWhile fun x=>ltB x.nm b.nm):=fun l _ _=>by
    unfold insertP zbp;have e : l=(l.takeWhile fun x=>ltB x.nm b.nm) ++ (l.dropWhile fun x=>ltB x.nm b.nm):=(List.takeWhile_append_dropWhile).symm;generalize hT : (l.takeWhile fun x=>ltB x.nm b.nm)=T at *;generalize hD : (l.dropWhile fun x=>ltB x.nm b.nm)=D at *;rw [e,List.take_left,List.drop_left]
  rw [key bs hs hn];clear key
  induction bs with
  | nil=>simp
  | cons a t ih =>
    have hs':=List.pairwise_cons.1 (show (a.nm :: t.map Pb.nm).Pairwise _ from hs);by_cases h : ltB a.nm b.nm=true
    · rw [List.takeWhile_cons,List.dropWhile_cons,h]
      simp only [if_true,List.cons_append,List.map_cons];rw [List.pairwise_cons];refine ⟨fun x hx=>?_,ih hs'.2 (fun x hx=>hn x (List.mem_cons_of_mem _ hx))⟩;simp only [List.map_append,List.mem_append,List.map_cons,List.map_nil,List.mem_singleton] at hx;rcases hx with (hx | rfl) | hx
      · obtain ⟨y,hy,rfl⟩:=List.mem_map.1 hx
        exact hs'.1 _ (List.mem_map_of_mem ((List.takeWhile_sublist _).subset hy))
      · exact h
      · obtain ⟨y,hy,rfl⟩:=List.mem_map.1 hx
        exact hs'.1 _ (List.mem_map_of_mem ((List.dropWhile_sublist _).subset hy))
    · rw [List.takeWhile_cons,List.dropWhile_cons]
      have h' : ltB a.nm b.nm=false:=by simpa using h
      rw [h'];simp only [Bool.false_eq_true,if_false,List.nil_append,List.singleton_append,List.map_cons];rw [List.pairwise_cons]
      have hba : ltB b.nm a.nm=true:=by
        cases hq : ltB b.nm a.nm
        · exact absurd (zn8 h' hq) (hn a (List.mem_cons_self ..))
        · rfl
      refine ⟨fun x hx=>?_,hs⟩;rcases List.mem_cons.1 hx with rfl | hx
      · exact hba
      · exact zhb hba (hs'.1 x hx)
theorem zab {W : World} {b : Nat} {cs : Array Value} {t : TypeId} (h : W.heap[b]? = some (.cells cs t (0,0))) (i : Nat) (x : Value) : (W.setCell ⟨b,i,none⟩ x).heap[b]? = some (.cells (cs.setIfInBounds i x) t (0,0)):=by
  obtain ⟨hlt,hk⟩:=Array.getElem?_eq_some_iff.1 h
  show (W.heap.modify b _)[b]? = _
  rw [Array.getElem?_eq_getElem (by rw [Array.size_modify];exact hlt),Array.getElem_modify_self,hk]
  rfl
theorem zev {W : World} {b : Nat} {x0 x1 x2 x3 x4 : Value} {t : TypeId} (h : W.heap[b]? = some (.cells #[x0,x1,x2,x3,x4] t (0,0))) (y0 y1 y2 y3 y4 : Value) :
    (((((W.setCell ⟨b,0,none⟩ y0).setCell ⟨b,1,none⟩ y1).setCell ⟨b,2,none⟩ y2).setCell ⟨b,3,none⟩ y3).setCell ⟨b,4,none⟩ y4).heap[b]? = some (.cells #[y0,y1,y2,y3,y4] t (0,0)) :=
  zab (zab (zab (zab (zab h 0 y0) 1 y1) 2 y2) 3 y3) 4 y4
theorem zny {w W : World} {b : Nat} (h : Below w.heap.size w W) (hb : w.heap.size<=b) (y0 y1 y2 y3 y4 : Value) :
    Below w.heap.size w (((((W.setCell ⟨b,0,none⟩ y0).setCell ⟨b,1,none⟩ y1).setCell ⟨b,2,none⟩ y2).setCell ⟨b,3,none⟩ y3).setCell ⟨b,4,none⟩ y4) :=
  zb8 (zb8 (zb8 (zb8 (zb8 h hb _) hb _) hb _) hb _) hb _
theorem zap (v : Value) (bs : List Bk) (n : ByteArray) (w : World) (r : ReadsR 5 bookC w.heap.size w v bs) :
    Calls Tryz.prog 140 #[v,.string n] w fun e w'=>e = .returned (.int .i64 (zag bs n))/\w'=w:=by
  obtain ⟨o,cap,rfl,hm,hc,-⟩:=r
  have HC : Hid (∀ i (hi : i < bs.length),∃ g off,o=some ⟨g,off,none⟩/\w.cell? ⟨g,off+i * 5,none⟩=some (.string bs[i].nm)):=fun i hi=>by
    obtain ⟨g,off,e,-,hx⟩:=hc i bs[i] (List.getElem?_eq_getElem hi);exact ⟨g,off,e,hx 0 _ rfl⟩
  unfold maxLen at hm;clear hc
  go_enter Tryz.func140,Tryz.ntmps140
  go_wp2_with fail
  go_loopw [5] (fun i wr=>∃ k : Nat,k<=bs.length/\i = .int .i64 k/\zag bs n=zbe n ((bs.map Bk.nm).drop k) k/\wr=w) (fun i _=>bs.length - (intOf i).toNat)
  case atStart=>exact ⟨0,Nat.zero_le _,rfl,rfl,rfl⟩
  case round =>
    obtain ⟨k,hk,rfl,hf,rfl⟩:=hrel;by_cases hlt : k < bs.length
    · obtain ⟨g,off,rfl,a0⟩:=HC.out k hlt
      rw [zsb bs n k hlt] at hf;have HF : Hid _:=hf;clear hf HC;generalize bs[k].nm=x at a0 HF;by_cases hx : x=n
      · have hq : (x.toList == n.toList)=true:=by rw [zkk];exact decide_eq_true hx
        have HV : Hid (zag bs n=k):=by have:=HF.out;rwa [if_pos hx] at this
        clear HF hx
        go_wp2_with fail
        go_ret;exact ⟨zam HV.out.symm,rfl⟩
      · have hq : (x.toList == n.toList)=false:=by rw [zkk];exact decide_eq_false hx
        have HV : Hid (zag bs n=zbe n ((bs.map Bk.nm).drop (k+1)) (k+1)):=by have:=HF.out;rwa [if_neg hx] at this
        clear HF hx
        go_wp2_with fail
        go_roundw
        case rel=>exact ⟨k+1,by omega,by go_num,HV.out,by trivial⟩
        case measure=>simp [intOf];omega
    · rw [zos bs n k hlt] at hf
      have HF : Hid _:=hf;clear hf HC
      go_wp2_with fail
      go_ret;exact ⟨zam HF.out.symm,rfl⟩
end Go.Proofs.YtfkkapdofjhgpaaGreatDoor
