import Derived.Lib.LazyBuf
import Derived.Deep.DeepCutAuto
import Derived.Test.YtfkkapdofjhgpaaGreatDoorM05
import Derived.Test.YtfkkapdofjhgpaaGreatDoorM06
import Derived.Test.YtfkkapdofjhgpaaGreatDoorM09
import Derived.Test.YtfkkapdofjhgpaaGreatDoorM11
import Derived.Test.YtfkkapdofjhgpaaGreatDoorM19
import Derived.Test.YtfkkapdofjhgpaaGreatDoorM23
import Derived.Test.YtfkkapdofjhgpaaGreatDoorM26
import Derived.Test.YtfkkapdofjhgpaaGreatDoorM27
import Derived.Test.YtfkkapdofjhgpaaGreatDoorM28
set_option maxHeartbeats 12800000
namespace Go.Proofs.YtfkkapdofjhgpaaGreatDoor
open Go.RowKit
set_option linter.unusedVariables false
set_option maxRecDepth 100000
theorem zrz (L : List Int) (c : Array Value) (h : c.toList=L.map (Value.int .i64)) (k : Nat) (hk : k < L.length) : c[k]? = some (.int .i64 (L.getD k 0)):=by
  rw [<- Array.getElem?_toList,h,List.getElem?_map,List.getElem?_eq_getElem hk,List.getD_eq_getElem?_getD,List.getElem?_eq_getElem hk]
  rfl
theorem zio (L : List Int) (c : Array Value) (h : c.toList=L.map (Value.int .i64)) : c.size=L.length:=by rw [<- Array.length_toList,h,List.length_map]
theorem zsm (c : Array Value) (k : Nat) (y : Int) (hk : k < 16) (hck : c[k]? = some (.int .i64 y)) (w : World) : (Instr.index 302 (.agg c) (.int .i64 (k : Int))).run Tryz.prog w = .ok (.int .i64 y) w:=by
  simp [Instr.index,part,go_sem,hck];intro h;exact absurd hk (by omega)
theorem zf6 (v : Value) (rs : List (Int × Int × Int)) (place : Int) (w : World) (hfit : zb9 rs) (r : ReadsR 3 zak w.heap.size w v rs) :
    Calls Tryz.prog 258 #[v,.int .i64 place] w fun e w'=>e = .returned (.int .i64 (pageOf rs place))/\Below w.heap.size w w':=by
  go_enter Tryz.func258,Tryz.ntmps258
  go_wp2_with fail
  refine (zdf v rs _ hfit r).mono ?_;rintro e w1 ⟨rfl,b1⟩;have r1:=(r.below b1).mono b1.size;cases hok : mapOk rs
  · have HV : Hid (pageOf rs place = -1):=by rw [Hid,pageOf,if_neg (fun q=>by rw [hok] at q;cases q.1)]
    go_wp2_with fail
    go_ret;exact ⟨zam HV.out.symm,b1⟩
  · have HOK : Hid (mapOk rs=true):=hok
    clear hok
    go_wp2_with fail
    refine (zjw place _).mono ?_;rintro e w2 ⟨rfl,rfl⟩;cases hp : (decide ((0 : Int)<=place) && decide (place<=15))
    · have HV : Hid (pageOf rs place = -1):=by
        rw [Hid,pageOf,if_neg];rintro ⟨_,h1,h2⟩;simp [h1,h2] at hp
      go_wp2_with fail
      go_ret;exact ⟨zam HV.out.symm,b1⟩
    · have hp2 : 0<=place/\place<=15:=by simpa using hp
      have hv : pageOf rs place=(za7 rs).getD place.toNat 0:=by rw [pageOf,if_pos ⟨HOK.out,hp2⟩]
      obtain ⟨k,rfl⟩:=Int.eq_ofNat_of_zero_le hp2.1;rw [Int.toNat_natCast] at hv;have HV : Hid _:=hv;clear hv
      go_wp2_with fail
      refine (zdj v rs _ HOK.out r1).mono ?_;rintro e w3 ⟨c,rfl,hcl,b3⟩;have hpl:=zac rs;have hck:=zrz (za7 rs) c hcl k (by omega);have hcs:=zio (za7 rs) c hcl;rw [hpl] at hcs;have hix:=fun w=>zsm c k _ (by omega) hck w
      clear hcl hpl hck;generalize (za7 rs).getD k 0=y at hix HV;have h0 : (0 : Int)<=(k : Int):=by omega
      have h1 : (k : Int) < 16:=by omega
      have bf:=za1 b1 b3
      go_wp2_with fail
      go_ret;exact ⟨zam HV.out.symm,bf⟩
theorem zoh (w : World) (c : Array Value) (L : List Int) (hc : c.toList=L.map (Value.int .i64)) (hl : L.length=16) : (w.alloc (.cells c 302)).ownsRow w.heap.size 302 1 (.slice (some ⟨w.heap.size,0,none⟩) 16 16) 16 (L.map (Value.int .i64)):=by
  have h:=World.ownsRow_lit (e:=302) (size:=1) (base:=w.heap.size) w c 16 (Nat.le_refl _) (by unfold maxLen;omega) (by rw [zio L c hc,hl])
  rwa [hc] at h
theorem zm1 (v : Value) (rs : List (Int × Int × Int)) (place page : Int) (w : World) (hfit : zb9 rs) (r : ReadsR 3 zak w.heap.size w v rs) :
    Calls Tryz.prog 262 #[v,.int .i64 place,.int .i64 page] w fun e w'=>∃ v' : Value,e = .returned (.tuple #[v',.bool (mapped rs place page).2])/\w'.ownsRow w.heap.size 172 3 v' (mapped rs place page).1.length ((mapped rs place page).1.flatMap zak)/\v' ≠ .slice none 0 0/\Below w.heap.size w w':=by
  obtain ⟨i0,hi,hz0,hz1,hz2⟩:=info_parts Tryz.infoRun
  go_enter Tryz.func262,Tryz.ntmps262
  go_wp2_with fail
  refine (zdf v rs _ hfit r).mono ?_;rintro e w1 ⟨rfl,b1⟩;have r1:=(r.below b1).mono b1.size;have bs:=b1.size;cases hok : mapOk rs
  · have HV : Hid (mapped rs place page=([],false)):=by rw [Hid,mapped,if_neg (by rw [hok];simp)]
    have HO : Hid ((w1.alloc (.cells #[] 172)).ownsRow w.heap.size 172 3 (.slice (some ⟨w1.heap.size,0,none⟩) 0 0) 0 []):=zah (zd3 w1) bs;have hb:=za3 (o:=.cells #[] 172) b1;clear r r1
    go_wp2_with fail
    go_ret2
    exact ⟨.slice (some ⟨w1.heap.size,0,none⟩) 0 0,by rw [HV.out];rfl,by rw [HV.out];exact HO.out,by simp,hb⟩
  · have HOK : Hid (mapOk rs=true):=hok
    have hfew : rs.length<=16:=by rw [mapOk,Bool.and_eq_true,decide_eq_true_iff] at hok;exact hok.2
    clear hok;obtain ⟨o,cap,rfl,hm,hc,hroom⟩:=r1
    have rr : ReadsR 3 zak w1.heap.size w1 (.slice o rs.length cap) rs:=⟨o,cap,rfl,hm,hc,hroom⟩
    have HR : Hid _:=rr
    have HSRC : Hid (∀ j u,(rs.flatMap zak)[j]? = some u->∃ g off,o=some ⟨g,off,none⟩/\(w1.alloc (.cells #[] 172)).cell? ⟨g,off+j,none⟩=some u):=fun j u hj=>by
      have hjl:=(List.getElem?_eq_some_iff.1 hj).1;rw [zbb zat] at hjl;have hi3 : j / 3 < rs.length:=by omega
      obtain ⟨g,off,e,hg,hx⟩:=hc (j / 3) rs[j / 3] (List.getElem?_eq_getElem hi3);refine ⟨g,off,e,(Below.cell (za3 (Below.refl _ _)) (p:=⟨g,off+j,none⟩) hg).trans ?_⟩;have hf:=zfo zat rs (j / 3) (j % 3) rs[j / 3] (List.getElem?_eq_getElem hi3) (by omega);rw [show j / 3 * 3+j % 3=j by omega] at hf;have:=hx (j % 3) u (by rw [<- hf];exact hj)
      rwa [show off+j / 3 * 3+j % 3=off+j by omega] at this
    have HONE : Hid (∀ u ∈ rs.flatMap zak,u.oneCell'=true):=fun u hu=>by
      obtain ⟨x,_,hx⟩:=List.mem_flatMap.1 hu;simp [zak] at hx;rcases hx with rfl | rfl | rfl <;> rfl
    have HLEN : Hid ((rs.flatMap zak).length=rs.length * 3):=zbb zat rs;have hM : (0+rs.length)<=maxLen:=by unfold maxLen;omega
    have HM : Hid _:=hM;have HB : Hid ((0+rs.length) * 24<=140737488355328):=by rw [Hid];omega
    have HS : Hid (w1.heap.size<=(w1.alloc (.cells #[] 172)).heap.size):=by rw [Hid];simp
    have HON : Hid ((w1.alloc (.cells #[] 172)).ownsRow w1.heap.size 172 3 (.slice (some ⟨w1.heap.size,0,none⟩) 0 0) 0 []):=zd3 w1
    have asis : ∀ v' w3,w3.ownsRow w1.heap.size 172 3 v' (0+rs.length) ([] ++ rs.flatMap zak)->(w1.alloc (.cells #[] 172)).grownBy w3 (Value.slice (some ⟨w1.heap.size,0,none⟩) 0 0).ownBlock->Hid (w3.ownsRow w.heap.size 172 3 v' rs.length (rs.flatMap zak)/\Below w.heap.size w w3):=fun v' w3 h1 h2=>by
      refine ⟨zah (by simpa using h1) bs,(za3 b1).grown h2 (by simp;omega) (fun q hq=>?_)⟩;simp [Value.ownBlock] at hq
      omega
    have HAS : Hid _:=asis;clear asis hc hroom rr hM hm r;have hlen16 : rs.length<=16:=hfew
    go_wp2_with fail
    refine (zjw place _).mono ?_;rintro e w2 ⟨rfl,rfl⟩;cases hp : (decide ((0 : Int)<=place) && decide (place<=15))
    · have HV : Hid (mapped rs place page=(rs,false)):=by
        rw [Hid,mapped,if_pos HOK.out,if_neg];rintro ⟨⟨h1,h2⟩,_⟩;simp [h1,h2] at hp
      go_wp2_with (at_builtin;refine zb5 rfl _ _ 115 rfl w2.heap.size 172 i0 (.agg #[.int .i64 0,.int .i64 0,.int .i64 0]) 3 24 Tryz.underlying115 hi hz0 hz1 hz2 rfl (by decide) (.slice (some ⟨w2.heap.size,0,none⟩) 0 0) 0 [] rfl HON.out o rs.length cap (rs.flatMap zak) rfl HLEN.out HSRC.out HONE.out HM.out HB.out HS.out ?_)
      intro v' w3 hown hgrow hnil;have HF:=HAS.out v' w3 (by simpa using hown) hgrow;have HNN : Hid (v' ≠ .slice none 0 0):=hnil;clear hown hgrow hnil
      go_wp2_with fail
      go_ret2
      exact ⟨v',by rw [HV.out];rfl,by rw [HV.out];exact HF.out.1,HNN.out,HF.out.2⟩
    · have hp2 : 0<=place/\place<=15:=by simpa using hp
      go_wp2_with fail
      refine (zjh page _).mono ?_;rintro e w2 ⟨rfl,rfl⟩;cases hg : (decide ((-1 : Int)<=page) && decide (page<=23))
      · have HV : Hid (mapped rs place page=(rs,false)):=by
          rw [Hid,mapped,if_pos HOK.out,if_neg];rintro ⟨_,h1,h2⟩;simp [h1,h2] at hg
        go_wp2_with (at_builtin;refine zb5 rfl _ _ 115 rfl w2.heap.size 172 i0 (.agg #[.int .i64 0,.int .i64 0,.int .i64 0]) 3 24 Tryz.underlying115 hi hz0 hz1 hz2 rfl (by decide) (.slice (some ⟨w2.heap.size,0,none⟩) 0 0) 0 [] rfl HON.out o rs.length cap (rs.flatMap zak) rfl HLEN.out HSRC.out HONE.out HM.out HB.out HS.out ?_)
        intro v' w3 hown hgrow hnil;have HF:=HAS.out v' w3 (by simpa using hown) hgrow;have HNN : Hid (v' ≠ .slice none 0 0):=hnil;clear hown hgrow hnil
        go_wp2_with fail
        go_ret2
        exact ⟨v',by rw [HV.out];rfl,by rw [HV.out];exact HF.out.1,HNN.out,HF.out.2⟩
      · have hg2 : -1<=page/\page<=23:=by simpa using hg
        have hv : mapped rs place page=(mapOf ((za7 rs).set place.toNat page),true):=by rw [mapped,if_pos HOK.out,if_pos ⟨hp2,hg2⟩]
        obtain ⟨k,rfl⟩:=Int.eq_ofNat_of_zero_le hp2.1;rw [Int.toNat_natCast] at hv;have HV : Hid _:=hv;have hk : k < 16:=by omega
        have HL : Hid (((za7 rs).set k page).length=16):=by rw [Hid,List.length_set,zac]
        have HRG : Hid (∀ j,j < ((za7 rs).set k page).length->-1<=((za7 rs).set k page).getD j 0/\((za7 rs).set k page).getD j 0<=23):=fun j hj=>zn7 rs HOK.out k hk page hg2 j (by rw [HL.out] at hj;exact hj)
        have HL2 : Hid (((za7 rs).set k page).length<=16):=Nat.le_of_eq HL.out;clear hv HAS HON HSRC HONE HLEN HM HB HS
        go_wp2_with fail
        refine (zdj _ rs _ HOK.out HR.out).mono ?_;rintro e w3 ⟨c,rfl,hcl,b3⟩;have hpl:=zac rs;have hcs:=zio (za7 rs) c hcl;rw [hpl] at hcs;have H1 : Hid (c.all (·.oneCell')=true):=zep _ c hcl;have HI : Hid ((Tryz.prog.info? 302).map (·.size)=some c.size):=by rw [hcs];exact zrv
        have HZ : Hid ((#[.int .i64 0,.int .i64 0,.int .i64 0,.int .i64 0,.int .i64 0,.int .i64 0,.int .i64 0,.int .i64 0,.int .i64 0,.int .i64 0,.int .i64 0,.int .i64 0,.int .i64 0,.int .i64 0,.int .i64 0,.int .i64 0] : Array Value).size=c.size):=by rw [hcs];rfl
        have HROW : Hid ((w3.alloc (.cells #[.int .i64 0,.int .i64 0,.int .i64 0,.int .i64 0,.int .i64 0,.int .i64 0,.int .i64 0,.int .i64 0,.int .i64 0,.int .i64 0,.int .i64 0,.int .i64 0,.int .i64 0,.int .i64 0,.int .i64 0,.int .i64 0] 302)).heap[w3.heap.size]? = some (.cells #[.int .i64 0,.int .i64 0,.int .i64 0,.int .i64 0,.int .i64 0,.int .i64 0,.int .i64 0,.int .i64 0,.int .i64 0,.int .i64 0,.int .i64 0,.int .i64 0,.int .i64 0,.int .i64 0,.int .i64 0,.int .i64 0] 302 (0,0))):=heap_alloc_new w3 _;have own:=zoh w3 c (za7 rs) hcl hpl;have bA:=za3 (o:=.cells c 302) b3;have c0:=own.cellAt k (by omega);have c1:=own.frozenAt k;rw [List.getElem?_map,List.getElem?_eq_getElem (show k < (za7 rs).length by omega)] at c0;simp only [Option.map_some] at c0;have hst:=zoh w3 (c.setIfInBounds k (.int .i64 page)) ((za7 rs).set k page) (by rw [Array.toList_setIfInBounds,hcl,List.map_set]) HL.out;have bset : Below w2.heap.size w2 (w3.alloc (.cells (c.setIfInBounds k (.int .i64 page)) 302)):=za3 b3;have HRD : Hid _:=Reads.of_own hst;have HBS : Hid _:=bset;have hsw : (w3.alloc (.cells #[.int .i64 0,.int .i64 0,.int .i64 0,.int .i64 0,.int .i64 0,.int .i64 0,.int .i64 0,.int .i64 0,.int .i64 0,.int .i64 0,.int .i64 0,.int .i64 0,.int .i64 0,.int .i64 0,.int .i64 0,.int .i64 0] 302)).setRow w3.heap.size c=w3.alloc (.cells c 302):=World.setRow_alloc_new w3 #[.int .i64 0,.int .i64 0,.int .i64 0,.int .i64 0,.int .i64 0,.int .i64 0,.int .i64 0,.int .i64 0,.int .i64 0,.int .i64 0,.int .i64 0,.int .i64 0,.int .i64 0,.int .i64 0,.int .i64 0,.int .i64 0] c _;generalize (za7 rs)[k]=y at c0;clear own hst hpl hcl hcs bA bset;have h0 : (0 : Int)<=(k : Int):=by omega
        have h1 : (k : Int) < 16:=by omega
        go_wp2_with (with_reducible refine zbt rfl _ _ 302 rfl w3.heap.size rfl c rfl #[.int .i64 0,.int .i64 0,.int .i64 0,.int .i64 0,.int .i64 0,.int .i64 0,.int .i64 0,.int .i64 0,.int .i64 0,.int .i64 0,.int .i64 0,.int .i64 0,.int .i64 0,.int .i64 0,.int .i64 0,.int .i64 0] 302 HROW.out HI.out HZ.out H1.out ?_)
        refine (zec _ ((za7 rs).set k page) _ HL2.out HRG.out HRD.out).mono ?_;rintro e w5 ⟨v',rfl,own5,hnn,b5⟩;have hb5:=za1 (za1 b1 HBS.out) b5;have hsz : w.heap.size<=(w3.alloc (.cells (c.setIfInBounds k (.int .i64 page)) 302)).heap.size:=Nat.le_trans bs HBS.out.size;have HF : Hid (w5.ownsRow w.heap.size 172 3 v' (mapOf ((za7 rs).set k page)).length ((mapOf ((za7 rs).set k page)).flatMap zak)):=zah own5 hsz;clear own5 b5
        go_wp2_with fail
        go_ret2
        exact ⟨v',by rw [HV.out];rfl,by rw [HV.out];exact HF.out,hnn,hb5⟩
theorem zaq {w W : World} {c : Nat} {x0 x1 x2 : Value} {T : TypeId} (kc : W.heap[c]? = some (.cells #[x0,x1,x2] T (0,0))) (hc : w.heap.size<=c) (h0 : Below w.heap.size w W) (y0 y1 y2 : Value) :
    (((W.setCell ⟨c,0,none⟩ y0).setCell ⟨c,1,none⟩ y1).setCell ⟨c,2,none⟩ y2).heap[c]? = some (.cells #[y0,y1,y2] T (0,0))/\Upto c W (((W.setCell ⟨c,0,none⟩ y0).setCell ⟨c,1,none⟩ y1).setCell ⟨c,2,none⟩ y2)/\Below w.heap.size w (((W.setCell ⟨c,0,none⟩ y0).setCell ⟨c,1,none⟩ y1).setCell ⟨c,2,none⟩ y2) :=
  ⟨zab (zab (zab kc 0 y0) 1 y1) 2 y2,(((Upto.refl _ _).setCell ⟨c,0,none⟩ (.inl rfl) _).setCell ⟨c,1,none⟩ (.inl rfl) _).setCell ⟨c,2,none⟩ (.inl rfl) _,zb8 (p:=⟨c,2,none⟩) (zb8 (p:=⟨c,1,none⟩) (zb8 (p:=⟨c,0,none⟩) h0 hc _) hc _) hc _⟩
theorem zs0 {n : Int} {z : (List Int × List Int) × Bool} (h : zao n=z) (hz : z.2=false) : z=(([],[]),false):=by
  unfold zao at h
  split at h
  · subst h;cases hz
  · exact h.symm
theorem zfy (n : Int) (w : World) :
    Calls Tryz.prog 127 #[.int .i64 n] w fun e w'=>∃ u1 u2 ub : Value,e = .returned (.tuple #[.agg #[u1,u2,ub],.bool (zao n).2])/\OwnP w.heap.size w' u1 u2 (zao n).1.1 (zao n).1.2/\OwnB w.heap.size w' ub []/\Below w.heap.size w w':=by
  obtain ⟨W0,hW0,k0,d0,z0⟩:=zb4 w #[.slice none 0 0,.slice none 0 0,.slice none 0 0] 30;have HW0 : Hid (W0 = _):=hW0;have l0:=za2 k0;clear hW0 z0
  go_enter Tryz.func127,Tryz.ntmps127
  go_wp2_with fail
  rw [<- HW0.out];clear HW0;refine (zk9 n _).mono ?_;rintro e w1 ⟨u1,u2,rfl,own,b1⟩;replace k0:=(b1.block _ l0).trans k0;replace d0:=za1 d0 b1
  obtain ⟨⟨⟨zc,zp⟩,made⟩,hz⟩ : ∃ x,zao n=x:=⟨_,rfl⟩
  have HZ : Hid (zao n=((zc,zp),made)):=hz;rw [hz] at own ⊢;simp only at own ⊢;obtain ⟨o1,c1,e1⟩:=za4 own.c;obtain ⟨o2,c2,e2⟩:=za4 own.p;subst e1 e2;have hlt : w.heap.size < w1.heap.size:=Nat.lt_of_lt_of_le l0 b1.size;obtain ⟨q0,q1,q2⟩:=cq3 k0;obtain ⟨f0,f1,f2⟩:=oq3 k0;have hne : ¬ w.heap.size=w1.heap.size:=by omega
  cases made
  · have hn:=zs0 hz rfl
    simp only [Prod.mk.injEq] at hn;obtain ⟨⟨rfl,rfl⟩,-⟩:=hn;have HS : Hid _:=zaq (w:=w) k0 (Nat.le_refl _) d0 (.slice none 0 0) (.slice none 0 0) (.slice none 0 0);have bP : ∀ X : World,Below X.heap.size X (X.alloc (.cells #[.slice o1 0 c1,.slice o2 0 c2] 27)):=fun X=>za3 (Below.refl _ _)
    have HT : Hid _:=And.intro (((bP _).block _ (za2 HS.out.1)).trans HS.out.1) (za1 HS.out.2.2 (bP _));clear own d0 k0 b1 hz bP
    go_wp2_with fail
    exact bodyPost_ret (v:=.tuple #[.agg #[.slice none 0 0,.slice none 0 0,.slice none 0 0],.bool false]) (by simp [results,Tryz.results127,go_sem,za0 HT.out.1]) rfl ⟨.slice none 0 0,.slice none 0 0,.slice none 0 0,by rw [HZ.out],by rw [HZ.out];exact OwnP.nil _ _,⟨zes _ _ _ _,fun b hb=>by simp at hb⟩,HT.out.2⟩
  · have HS : Hid _:=zaq (w:=w) k0 (Nat.le_refl _) d0 (.slice o1 zc.length c1) (.slice o2 zp.length c2) (.slice (some ⟨w1.heap.size+1,0,none⟩) 0 0)
    have ow3:=(own.upto HS.out.2.1 l0).mono (Nat.le_of_lt l0);have z3 : (((w1.setCell ⟨w.heap.size,0,none⟩ (.slice o1 zc.length c1)).setCell ⟨w.heap.size,1,none⟩ (.slice o2 zp.length c2)).setCell ⟨w.heap.size,2,none⟩ (.slice (some ⟨w1.heap.size+1,0,none⟩) 0 0)).heap.size=w1.heap.size:=by simp
    have HZ3 : Hid _:=z3;have HO3 : Hid _:=ow3;clear own d0 k0 b1 hz ow3 z3
    go_wp2_with fail
    revert HS HO3 HZ3
    generalize ((w1.setCell ⟨w.heap.size,0,none⟩ (.slice o1 zc.length c1)).setCell ⟨w.heap.size,1,none⟩ (.slice o2 zp.length c2)).setCell ⟨w.heap.size,2,none⟩ (.slice (some ⟨w1.heap.size+1,0,none⟩) 0 0)=W3;intro HS HZ3 HO3;obtain ⟨W5,hW5,k5,k6,d5,z5⟩:=zc7 W3 #[.slice o1 zc.length c1,.slice o2 zp.length c2] #[] 27 117;rw [HZ3.out] at k6;rw [<- hW5];have k7:=(d5.block _ (za2 HS.out.1)).trans HS.out.1;have HT : Hid _:=And.intro k7 (And.intro (HO3.out.below d5) (za1 HS.out.2.2 d5))
    have HOB : Hid (W5.ownsRow w.heap.size 117 5 (.slice (some ⟨w1.heap.size+1,0,none⟩) 0 0) 0 []):=⟨rfl,.inr ⟨_,0,#[],rfl,by omega,k6,Nat.le_refl _,Nat.zero_le _,rfl,rfl⟩⟩
    exact bodyPost_ret (v:=.tuple #[.agg #[.slice o1 zc.length c1,.slice o2 zp.length c2,.slice (some ⟨w1.heap.size+1,0,none⟩) 0 0],.bool true]) (by simp [results,Tryz.results127,go_sem,za0 HT.out.1]) rfl ⟨_,_,_,by rw [HZ.out],by rw [HZ.out];exact HT.out.2.1,⟨HOB.out,fun b hb=>by simp at hb⟩,HT.out.2.2⟩
theorem zs1 (v : Value) (rs : List (Int × Int × Int)) (w : World) (hl : rs.length<=1048576) (r : ReadsR 3 zak w.heap.size w v rs) :
    Calls Tryz.prog 246 #[v] w fun e w'=>∃ v' : Value,e = .returned v'/\w'.ownsRow w.heap.size 172 3 v' rs.length (rs.flatMap zak)/\Below w.heap.size w w':=by
  obtain ⟨i0,hi,hz0,hz1,hz2⟩:=info_parts Tryz.infoRun;have r0:=r;obtain ⟨o,cap,rfl,hm,hc,-⟩:=r;have qn : ∀ (n c : Nat) (w : World),(binOp .eql 115 (.slice o n c) (.slice none 0 0)).run Tryz.prog w = .ok (.bool o.isNone) w:=fun n c w=>run_eql_slice_nil w _ _ o _ _ Tryz.underlying115
  cases o with
  | none =>
    have h0 : rs = []:=by
      cases rs with
      | nil=>rfl
      | cons a l=>obtain ⟨_,_,h,_⟩:=hc 0 a rfl;cases h
    subst h0;clear hc
    go_enter Tryz.func246,Tryz.ntmps246
    go_wp2_with fail
    go_ret;exact ⟨_,rfl,World.ownsRow_nil _ _ _ _,Below.refl _ _⟩
  | some a =>
    have d0 : Below w.heap.size w (w.alloc (.cells #[] 172)):=za3 (Below.refl _ _);have HSRC : Hid _:=zd4 zat (by decide) ((r0.below d0).mono d0.size);have HONE : Hid _:=zey rs;have HLEN : Hid ((rs.flatMap zak).length=rs.length * 3):=zbb zat rs;have HM : Hid (0+rs.length<=maxLen):=by rw [Hid];unfold maxLen;omega
    have HB : Hid ((0+rs.length) * 24<=140737488355328):=by rw [Hid];omega
    have HS : Hid (w.heap.size<=(w.alloc (.cells #[] 172)).heap.size):=by rw [Hid];simp
    have HON : Hid ((w.alloc (.cells #[] 172)).ownsRow w.heap.size 172 3 (.slice (some ⟨w.heap.size,0,none⟩) 0 0) 0 []):=zd3 w;clear hc r0 hm
    go_enter Tryz.func246,Tryz.ntmps246
    go_wp2_with (at_builtin;refine zb5 rfl _ _ 115 rfl w.heap.size 172 i0 (.agg #[.int .i64 0,.int .i64 0,.int .i64 0]) 3 24 Tryz.underlying115 hi hz0 hz1 hz2 rfl (by decide) (.slice (some ⟨w.heap.size,0,none⟩) 0 0) 0 [] rfl HON.out (some a) rs.length cap (rs.flatMap zak) rfl HLEN.out HSRC.out HONE.out HM.out HB.out HS.out ?_)
    intro v' w3 hown hgrow hnil;have HO : Hid (w3.ownsRow w.heap.size 172 3 v' rs.length (rs.flatMap zak)):=by rw [Hid];simpa using hown
    have b3 : Below w.heap.size w w3:=d0.grown hgrow (by simp) (fun q hq=>by simp [Value.ownBlock] at hq;omega);clear hown hgrow hnil
    go_wp2_with fail
    go_ret;exact ⟨v',rfl,HO.out,b3⟩
theorem zi5 (v : Value) (rs : List Bk) (w : World) (hl : rs.length<=1048576) (hms : ∀ b ∈ rs,∃ o k cap,b.m = .slice o k cap) (r : ReadsR 5 bookC w.heap.size w v rs) :
    Calls Tryz.prog 273 #[v] w fun e w'=>∃ v' : Value,e = .returned v'/\w'.ownsRow w.heap.size 117 5 v' rs.length (rs.flatMap bookC)/\Below w.heap.size w w':=by
  obtain ⟨i0,hi,hz0,hz1,hz2⟩:=info_parts Tryz.infoBook;have r0:=r;obtain ⟨o,cap,rfl,hm,hc,-⟩:=r;have qn : ∀ (n c : Nat) (w : World),(binOp .eql 28 (.slice o n c) (.slice none 0 0)).run Tryz.prog w = .ok (.bool o.isNone) w:=fun n c w=>run_eql_slice_nil w _ _ o _ _ Tryz.underlying28
  cases o with
  | none =>
    have h0 : rs = []:=by
      cases rs with
      | nil=>rfl
      | cons a l=>obtain ⟨_,_,h,_⟩:=hc 0 a rfl;cases h
    subst h0;clear hc
    go_enter Tryz.func273,Tryz.ntmps273
    go_wp2_with fail
    go_ret;exact ⟨_,rfl,World.ownsRow_nil _ _ _ _,Below.refl _ _⟩
  | some a =>
    have d0 : Below w.heap.size w (w.alloc (.cells #[] 117)):=za3 (Below.refl _ _);have HSRC : Hid _:=zd4 zae (by decide) ((r0.below d0).mono d0.size);have HONE : Hid _:=ze6 rs hms;have HLEN : Hid ((rs.flatMap bookC).length=rs.length * 5):=zbb zae rs;have HM : Hid (0+rs.length<=maxLen):=by rw [Hid];unfold maxLen;omega
    have HB : Hid ((0+rs.length) * 64<=140737488355328):=by rw [Hid];omega
    have HS : Hid (w.heap.size<=(w.alloc (.cells #[] 117)).heap.size):=by rw [Hid];simp
    have HON : Hid ((w.alloc (.cells #[] 117)).ownsRow w.heap.size 117 5 (.slice (some ⟨w.heap.size,0,none⟩) 0 0) 0 []):=zcf w;clear hc r0 hm
    go_enter Tryz.func273,Tryz.ntmps273
    go_wp2_with (at_builtin;refine zb5 rfl _ _ 28 rfl w.heap.size 117 i0 (.agg #[.string ByteArray.empty,.int .i64 0,.slice none 0 0,.bool false,.int .i64 0]) 5 64 Tryz.underlying28 hi hz0 hz1 hz2 rfl (by decide) (.slice (some ⟨w.heap.size,0,none⟩) 0 0) 0 [] rfl HON.out (some a) rs.length cap (rs.flatMap bookC) rfl HLEN.out HSRC.out HONE.out HM.out HB.out HS.out ?_)
    intro v' w3 hown hgrow hnil;have HO : Hid (w3.ownsRow w.heap.size 117 5 v' rs.length (rs.flatMap bookC)):=by rw [Hid];simpa using hown
    have b3 : Below w.heap.size w w3:=d0.grown hgrow (by simp) (fun q hq=>by simp [Value.ownBlock] at hq;omega);clear hown hgrow hnil
    go_wp2_with fail
    go_ret;exact ⟨v',rfl,HO.out,b3⟩
theorem zwd {w w6 : World} {b0 b1 base : Nat} {nm : ByteArray} {sz : Int} {m m' : Value} {fx : Bool} {ep : Int} {z0 z1 z2 z3 z4 : Value} {n : Nat} {ys : List Value} (k0 : w6.heap[b0]? = some (.cells #[.string nm,.int .i64 sz,m,.bool fx,.int .i64 ep] 117 (0,0))) (k1 : w6.heap[b1]? = some (.cells #[z0,z1,z2,z3,z4] 117 (0,0))) (hne : b0 ≠ b1) (h0 : w.heap.size<=b0) (h1 : w.heap.size<=b1) (hl0 : b0 < base) (hl1 : b1 < base) (hb : w.heap.size<=base) (om : w6.ownsRow base 172 3 m' n ys) (d : Below w.heap.size w w6) :
    let W:=(w6.setCell ⟨b0,0,none⟩ (.string nm)).setCell ⟨b0,2,none⟩ m'
    let V:=((((W.setCell ⟨b1,0,none⟩ (.string nm)).setCell ⟨b1,1,none⟩ (.int .i64 sz)).setCell ⟨b1,2,none⟩ m').setCell ⟨b1,3,none⟩ (.bool fx)).setCell ⟨b1,4,none⟩ (.int .i64 ep)
    W.heap[b0]? = some (.cells #[.string nm,.int .i64 sz,m',.bool fx,.int .i64 ep] 117 (0,0))/\W.heap[b1]? = some (.cells #[z0,z1,z2,z3,z4] 117 (0,0))/\V.heap[b1]? = some (.cells #[.string nm,.int .i64 sz,m',.bool fx,.int .i64 ep] 117 (0,0))/\V.ownsRow w.heap.size 172 3 m' n ys/\Below w.heap.size w V:=by
  intro W V;have uW : Upto b0 w6 W:=((Upto.refl _ _).setCell ⟨b0,0,none⟩ (.inl rfl) _).setCell ⟨b0,2,none⟩ (.inl rfl) _;have uV : Upto b1 W V:=(((((Upto.refl _ _).setCell ⟨b1,0,none⟩ (.inl rfl) _).setCell ⟨b1,1,none⟩ (.inl rfl) _).setCell ⟨b1,2,none⟩ (.inl rfl) _).setCell ⟨b1,3,none⟩ (.inl rfl) _).setCell ⟨b1,4,none⟩ (.inl rfl) _;have kW : W.heap[b0]? = some (.cells #[.string nm,.int .i64 sz,m',.bool fx,.int .i64 ep] 117 (0,0)):=zab (zab k0 0 _) 2 _;have kW1 : W.heap[b1]? = some (.cells #[z0,z1,z2,z3,z4] 117 (0,0)):=(uW.block _ (za2 k1) (fun e=>hne e.symm)).trans k1;have l6:=za2 k0;have z6:=uW.size;have d6:=d.size;exact ⟨kW,kW1,zab (zab (zab (zab (zab kW1 0 _) 1 _) 2 _) 3 _) 4 _,zah (zbc (zbc om uW hl0) uV hl1) hb,(d.trans (uW.toBelow d6 h0)).trans (uV.toBelow (by omega) h1)⟩
theorem zip (nm : ByteArray) (sz : Int) (m : Value) (rs : List (Int × Int × Int)) (fx : Bool) (ep : Int) (w : World) (hn : nm.size<=1099511627776) (hl : rs.length<=1048576) (r : ReadsR 3 zak w.heap.size w m rs) :
    Calls Tryz.prog 212 #[.agg #[.string nm,.int .i64 sz,m,.bool fx,.int .i64 ep]] w fun e w'=>∃ m' : Value,e = .returned (.agg #[.string nm,.int .i64 sz,m',.bool fx,.int .i64 ep])/\w'.ownsRow w.heap.size 172 3 m' rs.length (rs.flatMap zak)/\Below w.heap.size w w':=by
  obtain ⟨o,cap,rfl⟩:=r.form;obtain ⟨W0,hW0,k0,k1,d0,z0⟩:=zc7 w #[.string nm,.int .i64 sz,.slice o rs.length cap,.bool fx,.int .i64 ep] #[.string ⟨#[]⟩,.int .i64 0,.slice none 0 0,.bool false,.int .i64 0] 117 117;have HW0 : Hid (W0 = _):=hW0;have r0 : ReadsR 3 zak W0.drew.heap.size W0.drew (.slice o rs.length cap) rs:=((r.below d0).mono d0.size).below ((Below.refl _ _).drew);have l0:=za2 k0;have l1:=za2 k1;have S0 : W0.drew.cell? ⟨w.heap.size,0,none⟩=some (.string nm):=za0 k0 0;have S2 : W0.drew.cell? ⟨w.heap.size,2,none⟩=some (.slice o rs.length cap):=za0 k0 2;clear hW0 r
  go_enter Tryz.func212,Tryz.ntmps212
  go_wp2_with fail
  rw [<- HW0.out];clear HW0
  go_region_law (first
      | (go_simp;go_at_call 193;refine (zfv nm _ hn).mono ?_;rintro e w5 ⟨rfl,b5⟩;have k50:=(b5.block _ (show w.heap.size < W0.heap.size by omega)).trans k0;have k51:=(b5.block _ (show w.heap.size+1 < W0.heap.size by omega)).trans k1;have T0:=za0 k50 0;have T2:=za0 k50 2;have r5:=(r0.below b5).mono b5.size;dsimp only)
      | (go_simp;go_at_call 246;refine (zs1 _ rs _ hl r5).mono ?_;rintro e w6 ⟨m',rfl,om,b6⟩;obtain ⟨o6,c6,rfl⟩:=za4 om;have k60:=kb0 b6 k50;have k61:=kb0 b6 k51;have U0:=za0 k60 0;have U2:=za0 k60 2;have f0:=za8 k60 0;have f2:=za8 k60 2;dsimp only))
  all_goals
    have l5:=b5.size;have HE : Hid _:=zwd (w:=w) (m':=.slice o6 rs.length c6) k60 k61 (by omega) (Nat.le_refl _) (by omega) (show w.heap.size < w5.heap.size by have : W0.drew.heap.size=W0.heap.size:=rfl;omega) (show w.heap.size+1 < w5.heap.size by have : W0.drew.heap.size=W0.heap.size:=rfl;omega) (by have : W0.drew.heap.size=W0.heap.size:=rfl;have:=d0.size;omega) om (za1 (za1 (zar d0) b5) b6);obtain ⟨q0,q1,q2,q3,q4⟩:=cq5 HE.out.1;obtain ⟨p0,p1,p2,p3,p4⟩:=cq5 HE.out.2.1;obtain ⟨g0,g1,g2,g3,g4⟩:=oq5 HE.out.2.1;clear U0 U2 f0 f2 T0 T2 S0 S2 k0 k1 k50 k51 k60 k61 om b5 b6 r0 r5
    go_wp2_with fail
    exact bodyPost_ret (v:=.agg #[.string nm,.int .i64 sz,.slice o6 rs.length c6,.bool fx,.int .i64 ep]) (by simp [results,Tryz.results212,go_sem,za0 HE.out.2.2.1]) rfl ⟨_,rfl,HE.out.2.2.2.1,HE.out.2.2.2.2⟩
theorem zu4 (n : Nat) (hn : n<=1048576) : ∃ M : Array Value,(∀ W : World,(Instr.makeSlice 28 (.int .i64 0) (.int .i64 (n : Int))).run Tryz.prog W = .ok (.slice (some ⟨W.heap.size,0,none⟩) 0 n) (W.alloc (.cells M 117))) /\
    ∀ (W : World) (base : Nat),base<=W.heap.size->(W.alloc (.cells M 117)).ownsRow base 117 5 (.slice (some ⟨W.heap.size,0,none⟩) 0 n) 0 []:=by
  obtain ⟨i0,hi,hz0,hz1,hz2⟩:=info_parts Tryz.infoBook;refine ⟨madeCells (Value.agg #[.string ByteArray.empty,.int .i64 0,.slice none 0 0,.bool false,.int .i64 0]).cells (n * 5),fun W=>?_,fun W base hb=>?_⟩
  · have h:=run_make (P:=Tryz.prog) W 28 117 i0 (.agg #[.string ByteArray.empty,.int .i64 0,.slice none 0 0,.bool false,.int .i64 0]) Tryz.underlying28 hi hz0 .i64 .i64 0 (n : Int) (by omega) (by omega) (by rw [hz2];omega) (by omega)
    rw [hz1,Int.toNat_natCast] at h
    simpa using h
  · exact ⟨rfl,.inr ⟨_,n,_,rfl,hb,heap_alloc_new W _,Nat.zero_le _,by unfold maxLen;omega,by rw [size_madeCells],by simp⟩⟩
theorem zhs (v1 v2 vb : Value) (cs ps : List Int) (bks : List Bk) (w : World) (hc : cs.length<=1048576) (hp : ps.length<=1048576) (hb : bks.length<=6) (hn : ∀ b ∈ bks,b.nm.size<=1099511627776) (hr : ∀ b ∈ bks,b.rs.length<=1048576) (r : RS w.heap.size w v1 v2 vb cs ps bks) :
    Calls Tryz.prog 188 #[.agg #[v1,v2,vb]] w fun e w'=>∃ (u1 u2 ub : Value) (ms : List Bk),e = .returned (.agg #[u1,u2,ub])/\ms.map Bk.pb=bks.map Bk.pb/\OwnS w.heap.size w' u1 u2 ub cs ps ms/\Below w.heap.size w w':=by
  obtain ⟨i0,hi,hz0,hz1,hz2⟩:=info_parts Tryz.infoBook;obtain ⟨o1,k1,o2,k2,ob,kb,rfl,rfl,rfl⟩:=r.forms;obtain ⟨W0,hW0,kA,kR,d0,z0⟩:=zc7 w #[.slice o1 cs.length k1,.slice o2 ps.length k2,.slice ob bks.length kb] #[.slice none 0 0,.slice none 0 0,.slice none 0 0] 30 30;have HW0 : Hid (W0 = _):=hW0;have HN : Hid _:=hn;have HRL : Hid _:=hr;have r0:=(r.below d0).mono d0.size;obtain ⟨M,hmk,hown⟩:=zu4 bks.length (by omega);have own0:=hown W0 W0.heap.size (Nat.le_refl _);have bd0 : Below W0.heap.size W0 (W0.alloc (.cells M 117)):=za3 (Below.refl _ _);have l1 : w.heap.size+1 < W0.heap.size:=by omega
  have pA:=za0 kA 2;have pA':=(bd0.cell (p:=⟨w.heap.size,2,none⟩) (za2 kA)).trans pA;have z0a : w.heap.size+1+1<=W0.heap.size:=by omega
  have own0' : (W0.alloc (.cells M 117)).ownsRow W0.heap.size 117 5 (.slice (some ⟨w.heap.size+1+1,0,none⟩) 0 bks.length) 0 []:=by rw [<- z0];exact own0
  have rb:=r0.b;obtain ⟨_,_,eb,mb,cb,-⟩:=rb.row;cases eb;have HC : Hid _:=zbj cb;have RM : Hid _:=rb.maps;rw [hW0] at pA pA';clear hW0 z0 r hn hr hown own0 rb cb;unfold maxLen at mb
  go_enter Tryz.func188,Tryz.ntmps188
  go_wp2_with fail
  rw [<- HW0.out];clear HW0 pA pA' hmk;generalize W0.alloc (.cells M 117)=W1 at *
  go_loopw [3,13] (fun q i wr=>∃ (j g cp : Nat) (ms : List Bk),j<=bks.length/\i = .int .i64 j/\q = .slice (some ⟨g,0,none⟩) ms.length cp/\ms.map Bk.pb=(bks.take j).map Bk.pb/\OwnB W0.heap.size wr (.slice (some ⟨g,0,none⟩) ms.length cp) ms/\ApartM ms/\Below W0.heap.size W0 wr) (fun _ i _=>bks.length - (intOf i).toNat)
  case atStart=>exact ⟨0,_,_,[],Nat.zero_le _,rfl,rfl,rfl,⟨own0',fun b hb=>by simp at hb⟩,List.Pairwise.nil,bd0⟩
  case round =>
    clear own0' bd0;obtain ⟨j,g,cp,ms,hj,rfl,rfl,hpl,own,apa,hbw⟩:=hrel;have HML : Hid (ms.length=j):=by have:=congrArg List.length hpl;simp at this;rw [Hid];omega
    by_cases hlt : j < bks.length
    · obtain ⟨g0,off,rfl,hg,a0,a1,a2,a3,a4⟩:=HC.out j hlt
      have rm:=((RM.out bks[j] (List.getElem_mem hlt)).below hbw).mono hbw.size;have rl:=HRL.out bks[j] (List.getElem_mem hlt);have rn:=HN.out bks[j] (List.getElem_mem hlt);have hpt : (bks.take (j+1)).map Bk.pb=(bks.take j).map Bk.pb ++ [bks[j].pb]:=by rw [List.take_succ_eq_append_getElem hlt,List.map_append];rfl
      obtain ⟨x,hx⟩ : ∃ x,bks[j]=x:=⟨_,rfl⟩
      rw [hx] at a0 a1 a2 a3 a4 rm rl rn hpt;clear hx;obtain ⟨nm,sz,m,rs,fx,ep⟩:=x;simp only at a0 a1 a2 a3 a4 rm rl rn;obtain ⟨o',cap',hm'⟩:=rm.form;subst hm';replace a0:=(hbw.cell (p:=⟨g0,off+j * 5,none⟩) hg).trans a0;replace a1:=(hbw.cell (p:=⟨g0,off+j * 5+1,none⟩) hg).trans a1;replace a2:=(hbw.cell (p:=⟨g0,off+j * 5+2,none⟩) hg).trans a2;replace a3:=(hbw.cell (p:=⟨g0,off+j * 5+3,none⟩) hg).trans a3;replace a4:=(hbw.cell (p:=⟨g0,off+j * 5+4,none⟩) hg).trans a4;have HP : Hid _:=And.intro hpl hpt;obtain ⟨WB,hWB,kB,dB,zB⟩:=zb4 wr #[.string nm,.int .i64 sz,.slice o' rs.length cap',.bool fx,.int .i64 ep] 117;have HWB : Hid (WB = _):=hWB;have rmB:=(rm.below dB).mono dB.size;have hbB:=za1 hbw dB;have ownB:=own.below dB;have HW0B : Hid (W0.heap.size<=WB.heap.size):=hbB.size;have i0' : (0 : Int)<=(j : Int):=by omega
      have i1' : (j : Int) < (bks.length : Int):=by omega
      have HAP : Hid _:=apa;clear hWB zB rm own hbw hpl hpt dB apa
      go_wp2_with fail
      rw [<- HWB.out];clear HWB a0 a1 a2 a3 a4;refine (zip nm sz _ rs fx ep _ rn rl rmB).mono ?_;rintro e w5 ⟨m',rfl,om,b5⟩;obtain ⟨o3,cp3,hm3⟩:=za4 om;subst hm3;have own5:=ownB.below b5;have hb5:=za1 hbB b5;have hgl:=(own5.row.lt g rfl).1;have HX : Hid _:=And.intro om (And.intro own5 (And.intro hb5 b5));have HOLD : Hid (∀ b ∈ ms,∀ g',b.m.ownBlock=some g'->g' < WB.heap.size):=fun b hbm g' hg'=>((ownB.maps b hbm).lt g' hg').2
      have hown4 : w5.ownsRow W0.heap.size 117 5 (.slice (some ⟨g,0,none⟩) ms.length cp) ms.length (ms.flatMap bookC):=own5.row;have HN6 : Hid (ms.length+1<=6):=by have:=HML.out;rw [Hid];omega
      clear om own5 hb5 b5 ownB hbB rmB kB
      go_wp2_with (at_builtin;refine wpList_append_own _ rfl _ _ 28 rfl W0.heap.size 117 i0 (.agg #[.string ByteArray.empty,.int .i64 0,.slice none 0 0,.bool false,.int .i64 0]) 5 64 Tryz.underlying28 hi hz0 hz1 hz2 rfl (by decide) _ _ _ rfl (hown4.alloc _) ⟨w5.heap.size,0,none⟩ 1 1 (bookC ⟨nm,sz,.slice o3 rs.length cp3,rs,fx,ep⟩) rfl rfl ?c1 ?c2 ?c3 ?c4 ?c5 ?_)
      case c1=>exact zvi w5 ⟨nm,sz,.slice o3 rs.length cp3,rs,fx,ep⟩ 117
      case c2=>exact zgs _ ⟨_,_,_,rfl⟩
      case c3=>have:=HN6.out;unfold maxLen;omega
      case c4=>have:=HN6.out;omega
      case c5=>have:=HX.out.2.2.1.size;simp at this ⊢;omega
      intro v'' w6 hown' hgrow' hnil';have own6 : w6.ownsRow W0.heap.size 117 5 v'' (ms ++ [(⟨nm,sz,.slice o3 rs.length cp3,rs,fx,ep⟩ : Bk)]).length ((ms ++ [(⟨nm,sz,.slice o3 rs.length cp3,rs,fx,ep⟩ : Bk)]).flatMap bookC):=by simpa using hown'
      obtain ⟨g',cp',hv'⟩ : ∃ g' cp',v'' = .slice (some ⟨g',0,none⟩) (ms ++ [(⟨nm,sz,.slice o3 rs.length cp3,rs,fx,ep⟩ : Bk)]).length cp':=by
        rcases own6.2 with ⟨e,_⟩ | ⟨g',cp',_,e,_⟩
        · exact absurd e hnil'
        · exact ⟨g',cp',e⟩
      have row5:=hown4.alloc (.cells #[.string nm,.int .i64 sz,.slice o3 rs.length cp3,.bool fx,.int .i64 ep] 117);have hbs:=HX.out.2.2.1.size;have hbs2:=HX.out.2.2.2.size
      have mp5 : ∀ b ∈ ms ++ [(⟨nm,sz,.slice o3 rs.length cp3,rs,fx,ep⟩ : Bk)],w6.ownsRow W0.heap.size 172 3 b.m b.rs.length (b.rs.flatMap zak):=fun b hbm=>by
        rcases List.mem_append.1 hbm with y | y
        · exact zne ((HX.out.2.1.maps b y).alloc _) row5 (by decide) hgrow'
        · simp only [List.mem_singleton] at y
          subst y;have h4 : w5.ownsRow W0.heap.size 172 3 (.slice o3 rs.length cp3) rs.length (rs.flatMap zak):=zah HX.out.1 HW0B.out;exact zne (h4.alloc _) row5 (by decide) hgrow'
      have hb6 : Below W0.heap.size W0 w6:=(za3 HX.out.2.2.1).grown hgrow' (by simp at hbs ⊢;omega) (fun q hq=>by cases hq;exact hgl);have hpl5 : (ms ++ [(⟨nm,sz,.slice o3 rs.length cp3,rs,fx,ep⟩ : Bk)]).map Bk.pb=(bks.take (j+1)).map Bk.pb:=by rw [HP.out.2,<- HP.out.1,List.map_append];rfl
      have ap5 : ApartM (ms ++ [(⟨nm,sz,.slice o3 rs.length cp3,rs,fx,ep⟩ : Bk)]):=ApartM.snoc HAP.out _ (fun b hbm g' hg' hgy=>by
        have h1:=HOLD.out b hbm g' hg';have h2:=(HX.out.1.lt g' hgy).1
        omega)
      subst hv';have HO : Hid _:=And.intro hpl5 (And.intro (OwnB.mk own6 mp5) (And.intro ap5 hb6));clear hown' hgrow' hnil' own6 mp5 hb6 hpl5 ap5 row5 hown4 HX HP HOLD HAP hbs hbs2
      go_wp2_with fail
      go_roundw
      case rel=>exact ⟨j+1,g',cp',_,by omega,by go_num,rfl,HO.out⟩
      case measure=>simp [intOf] <;> omega
    · have htk : bks.take j=bks:=List.take_of_length_le (by omega)
      rw [htk] at hpl;have kA2:=kb0 hbw kA;have kR2:=kb0 hbw kR
      have r2:=((r0.below hbw).mono hbw.size)
      have hql : ¬ (j : Int) < (bks.length : Int):=by omega
      obtain ⟨p0,p1⟩:=cq2 kA2;have HPL : Hid _:=And.intro hpl apa;clear htk hpl apa HC RM HN HRL
      go_wp2_with fail
      clear p0 p1;refine (zdc _ _ cs ps _ hc hp r2.p.c r2.p.p).mono ?_;rintro e w6 ⟨u1,u2,rfl,op,b6⟩;obtain ⟨p1,q1,p2,q2,e1,e2⟩:=op.forms;subst e1 e2;have kR3:=kb0 b6 kR2;have own6:=own.below b6;have hb6:=za1 hbw b6;have sz6:=hbw.size;have sz7:=b6.size;have HS : Hid _:=zaq (w:=w) kR3 (by omega) (za1 d0 hb6) (.slice p1 cs.length q1) (.slice p2 ps.length q2) (.slice (some ⟨g,0,none⟩) ms.length cp)
      have HF : Hid (OwnS w.heap.size _ (.slice p1 cs.length q1) (.slice p2 ps.length q2) (.slice (some ⟨g,0,none⟩) ms.length cp) cs ps ms):=⟨(op.upto HS.out.2.1 (by omega)).mono (by omega),(own6.upto HS.out.2.1 (by omega)).mono (by omega),HPL.out.2⟩
      have q0:=za0 kR3 0;have q1':=za0 kR3 1;have q2':=za0 kR3 2;obtain ⟨f0,f1,f2⟩:=oq3 kR3;clear op own6 hb6 kR3 kR2 kA2 own hbw b6 kA kR r0 r2 d0
      go_wp2_with fail
      exact bodyPost_ret (v:=.agg #[.slice p1 cs.length q1,.slice p2 ps.length q2,.slice (some ⟨g,0,none⟩) ms.length cp]) (by simp [results,Tryz.results188,go_sem,za0 HS.out.1]) rfl ⟨_,_,_,ms,rfl,HPL.out.1,HF.out,HS.out.2.2⟩
end Go.Proofs.YtfkkapdofjhgpaaGreatDoor
