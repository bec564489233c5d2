import Derived.Laws.CopyOwn
import Derived.Deep.MidRow
import Derived.Test.YtfkkapdofjhgpaaGreatDoorM18
import Derived.Test.YtfkkapdofjhgpaaGreatDoorM19
import Derived.Test.YtfkkapdofjhgpaaGreatDoorM20
set_option maxHeartbeats 12800000
namespace Go.Proofs.YtfkkapdofjhgpaaGreatDoor
open Go.RowKit
set_option linter.unusedVariables false
theorem znl {P : Program} (w : World) (dT sT ty elem : TypeId) (k g o dLen dCap : Nat) (a : Addr) (sLen sCap : Nat) (cur : Array Value) (t : TypeId) (cs : List Value)
    (hu : P.underlying dT=some (.slice elem)) (hs : (P.info? elem).map (·.size)=some k)
    (hg : w.heap[g]? = some (.cells cur t (0,0))) (hn : cs.length=Nat.min sLen dLen * k)
    (hsrc : ∀ j v,cs[j]? = some v->w.cell? (a.add j)=some v) (hfit : o+cs.length<=cur.size) (h1 : ∀ v ∈ cs,v.oneCell'=true) :
    (Builtin.copy_ #[dT,sT] ty #[.slice (some ⟨g,o,none⟩) dLen dCap,.slice (some a) sLen sCap]).run P w =
      .ok (goInt (Nat.min sLen dLen)) (w.setRow g (cur.toList.take o ++ cs ++ cur.toList.drop (o+cs.length)).toArray):=by
  have hl:=run_loadCells_list (P:=P) w a cs hsrc;have hst:=run_storeCells_at P g o t cs 0 cur w hg (by simpa using hfit) h1
  cases hq : P.info? elem with
  | none=>simp [hq] at hs
  | some i =>
    have hi : i.size=k:=by simpa [hq] using hs
    simp [Builtin.copy_,run_underlying hu,Builtin.lenOf,Builtin.firstCells,sizeOf,typeInfo,hq,hi,<- hn,hl,hst]
theorem ztv {P : Program} {w : World} {g o : Nat} {cs : Array Value} {xs : List Value} {t ty : TypeId} {d : TypeDesc} (hg : w.heap[g]? = some (.cells cs t (0,0))) (hx : ∀ j v,xs[j]? = some v->cs[o+j]? = some v) (hu : P.underlying ty=some d) (hd : d.isRow=true) (hi : (P.info? ty).map (·.size)=some xs.length) :
    (Instr.loadAt ty (.pointer (some ⟨g,o,none⟩))).run P w = .ok (.agg xs.toArray) w :=
  run_loadAt_mid w g o ty xs d (fun j v hj=>(za0 hg (o+j)).trans (hx j v hj)) hu hd hi
theorem zxq : (Tryz.prog.info? 2).map (·.size)=some 1:=by kernel_rfl
theorem zik : (Tryz.prog.info? 195).map (·.size)=some 12:=by kernel_rfl
theorem zw3 : (Tryz.prog.info? 192).map (·.size)=some 4:=by kernel_rfl
theorem zxr : (Tryz.prog.info? 43).map (·.size)=some 2:=by kernel_rfl
theorem zjt {w : World} {g : Nat} {cs : Array Value} : Upto g w (w.setRow g cs):=by
  refine ⟨rfl,rfl,rfl,by simp [World.setRow],fun k hk hne=>?_⟩;simp only [World.setRow,Array.getElem?_modify];rw [if_neg (fun e=>hne e.symm)]
theorem Upto.undrewM {c : Nat} {w w' : World} (u : Upto c w.drew w') : Upto c w w':=⟨u.os,u.tape,u.output,u.size,u.block⟩
theorem zlq (g a j : Nat) : (⟨g,a,none⟩ : Addr).add j=⟨g,a+j,none⟩:=by unfold Addr.add;split <;> simp_all
theorem zxs {B : Nat} {w : World} {o : Option Addr} {n cap : Nat} {xs : List Int} (h : Reads B w (.slice o n cap) (xs.map (Value.int .i64))) (h0 : 0 < xs.length) : ∃ g off,o=some ⟨g,off,none⟩/\g < B/\∀ j v,(xs.map (Value.int .i64))[j]? = some v->w.cell? ((⟨g,off,none⟩ : Addr).add j)=some v:=by
  obtain ⟨o',cap',e,-,hc,-⟩:=h;simp only [Value.slice.injEq] at e;obtain ⟨rfl,-,-⟩:=e;obtain ⟨g,off,rfl,hg,-⟩:=hc 0 _ (List.getElem?_eq_getElem (by simpa using h0));refine ⟨g,off,rfl,hg,zn3 fun j u hj=>?_⟩;obtain ⟨g',off',e,-,hx⟩:=hc j u hj;simp only [Option.some.injEq,Addr.mk.injEq,and_true] at e;obtain ⟨rfl,rfl⟩:=e;exact hx
set_option maxRecDepth 100000 in
theorem zo6 (v1 v2 : Value) (a b c d a0 a1 b0 b1 c0 c1 e0 e1 : Int) (w : World) (r : RM w.heap.size w v1 v2 [a,b,c,d] [(a0,a1),(b0,b1),(c0,c1),(e0,e1)]) :
    Calls Tryz.prog 189 #[.agg #[v1,v2]] w fun e w'=>e = .returned (.tuple #[.agg #[.int .i64 a,.int .i64 b,.int .i64 c,.int .i64 d,.int .i64 a0,.int .i64 a1,.int .i64 b0,.int .i64 b1,.int .i64 c0,.int .i64 c1,.int .i64 e0,.int .i64 e1],.bool (zdv [a,b,c,d] [(a0,a1),(b0,b1),(c0,c1),(e0,e1)])])/\Below w.heap.size w w':=by
  obtain ⟨o1,cap1,o2,cap2,e1',e2'⟩:=r.forms;have e1'' : v1 = .slice o1 4 cap1:=e1';have e2'' : v2 = .slice o2 4 cap2:=e2';subst e1'' e2'';clear e1' e2';obtain ⟨g1,of1,rfl,q1,hs1⟩:=zxs r.t (by simp)
  obtain ⟨g2,of2,rfl,q2⟩ : ∃ g2 of2,o2=some ⟨g2,of2,none⟩/\g2 < w.heap.size:=by
    obtain ⟨o',cap',e,-,hc,-⟩:=r.r;simp only [Value.slice.injEq] at e;obtain ⟨rfl,-,-⟩:=e;obtain ⟨g,off,e,hg,-⟩:=hc 0 _ rfl;exact ⟨g,off,e,hg⟩
  have HV : Hid (zdv [a,b,c,d] [(a0,a1),(b0,b1),(c0,c1),(e0,e1)]=(zld [a,b,c,d] 4 && zle [a,b,c,d] [(a0,a1),(b0,b1),(c0,c1),(e0,e1)] 4)):=zvq rfl rfl;have hs2 : ∀ W',Below w.heap.size w W'->∀ j u,([(a0,a1),(b0,b1),(c0,c1),(e0,e1)].flatMap zdm)[j]? = some u->W'.cell? ((⟨g2,of2,none⟩ : Addr).add j)=some u:=fun W' b=>zni zdy (by decide) (r.r.below b)
  have hs1' : ∀ W',Below w.heap.size w W'->∀ j u,([a,b,c,d].map (Value.int .i64))[j]? = some u->W'.cell? ((⟨g1,of1,none⟩ : Addr).add j)=some u:=fun W' b j u hj=>by
    rw [zlq];have:=hs1 j u hj;rw [zlq] at this;exact (b.cell (p:=⟨g1,of1+j,none⟩) q1).trans this
  obtain ⟨W0,hW0,k0,k1,k2,d0,z0⟩:=zg0 w #[.slice (some ⟨g1,of1,none⟩) 4 cap1,.slice (some ⟨g2,of2,none⟩) 4 cap2] #[.int .i64 0,.int .i64 0,.int .i64 0,.int .i64 0,.int .i64 0,.int .i64 0,.int .i64 0,.int .i64 0,.int .i64 0,.int .i64 0,.int .i64 0,.int .i64 0] #[.int .i64 0,.int .i64 0,.int .i64 0,.int .i64 0,.int .i64 0,.int .i64 0,.int .i64 0,.int .i64 0,.int .i64 0,.int .i64 0,.int .i64 0,.int .i64 0] 33 195 195;have HW0 : Hid (W0 = _):=hW0;clear hW0 z0 hs1 r
  go_enter Tryz.func189,Tryz.ntmps189
  go_upto_region 4 with fail
  rw [<- HW0.out];clear HW0;have hone1 : ∀ v ∈ [a,b,c,d].map (Value.int .i64),v.oneCell'=true:=fun v hv=>by obtain ⟨x,_,rfl⟩:=List.mem_map.1 hv;rfl
  obtain ⟨W2,hW2⟩ : ∃ W2,W2=W0.drew.setRow (w.heap.size+1+1) #[.int .i64 a,.int .i64 b,.int .i64 c,.int .i64 d,.int .i64 0,.int .i64 0,.int .i64 0,.int .i64 0,.int .i64 0,.int .i64 0,.int .i64 0,.int .i64 0]:=⟨_,rfl⟩
  have hrun1 : (Builtin.copy_ #[25,25] 3 #[.slice (some ⟨w.heap.size+1+1,0,none⟩) 4 4,.slice (some ⟨g1,of1,none⟩) 4 cap1]).run Tryz.prog W0.drew = .ok (.int .i64 4) W2:=by
    rw [hW2];exact znl (P:=Tryz.prog) W0.drew 25 25 3 2 1 (w.heap.size+1+1) 0 4 4 ⟨g1,of1,none⟩ 4 cap1 #[.int .i64 0,.int .i64 0,.int .i64 0,.int .i64 0,.int .i64 0,.int .i64 0,.int .i64 0,.int .i64 0,.int .i64 0,.int .i64 0,.int .i64 0,.int .i64 0] 195 ([a,b,c,d].map (Value.int .i64)) Tryz.underlying25 zxq k2 rfl (hs1' W0.drew (zar d0)) (by simp) hone1
  have u2 : Upto (w.heap.size+1+1) W0 W2:=by rw [hW2];exact (zjt (w:=W0.drew)).undrewM
  have k22 : W2.heap[w.heap.size+1+1]? = some (.cells #[.int .i64 a,.int .i64 b,.int .i64 c,.int .i64 d,.int .i64 0,.int .i64 0,.int .i64 0,.int .i64 0,.int .i64 0,.int .i64 0,.int .i64 0,.int .i64 0] 195 (0,0)):=by rw [hW2];exact zd0 (w:=W0.drew) k2
  have k02:=(u2.block _ (za2 k0) (by omega)).trans k0;have k12:=(u2.block _ (za2 k1) (by omega)).trans k1;have d2:=d0.trans (u2.toBelow d0.size (by omega));have p0 : W0.drew.cell? ⟨w.heap.size,0,none⟩=some (.slice (some ⟨g1,of1,none⟩) 4 cap1):=za0 k0 0;have p0':=za0 k0 0;clear hW2 u2 k0 k1 k2 hs1' hone1 d0
  go_region_law (fail)
  clear hrun1 p0 p0'
  obtain ⟨W3,hW3⟩ : ∃ W3,W3=W2.drew.setRow (w.heap.size+1+1) #[.int .i64 a,.int .i64 b,.int .i64 c,.int .i64 d,.int .i64 a0,.int .i64 a1,.int .i64 b0,.int .i64 b1,.int .i64 c0,.int .i64 c1,.int .i64 e0,.int .i64 e1]:=⟨_,rfl⟩
  have hrun2 : (Builtin.copy_ #[31,31] 3 #[.slice (some ⟨w.heap.size+1+1,4,none⟩) 4 4,.slice (some ⟨g2,of2,none⟩) 4 cap2]).run Tryz.prog W2.drew = .ok (.int .i64 4) W3:=by
    rw [hW3];exact znl (P:=Tryz.prog) W2.drew 31 31 3 43 2 (w.heap.size+1+1) 4 4 4 ⟨g2,of2,none⟩ 4 cap2 #[.int .i64 a,.int .i64 b,.int .i64 c,.int .i64 d,.int .i64 0,.int .i64 0,.int .i64 0,.int .i64 0,.int .i64 0,.int .i64 0,.int .i64 0,.int .i64 0] 195 ([(a0,a1),(b0,b1),(c0,c1),(e0,e1)].flatMap zdm) Tryz.underlying31 zxr k22 rfl (hs2 W2.drew (zar d2)) (by simp [zdm]) (zpl _)
  have u3 : Upto (w.heap.size+1+1) W2 W3:=by rw [hW3];exact (zjt (w:=W2.drew)).undrewM
  have k23 : W3.heap[w.heap.size+1+1]? = some (.cells #[.int .i64 a,.int .i64 b,.int .i64 c,.int .i64 d,.int .i64 a0,.int .i64 a1,.int .i64 b0,.int .i64 b1,.int .i64 c0,.int .i64 c1,.int .i64 e0,.int .i64 e1] 195 (0,0)):=by rw [hW3];exact zd0 (w:=W2.drew) k22
  have k13:=(u3.block _ (za2 k12) (by omega)).trans k12;have d3:=d2.trans (u3.toBelow d2.size (by omega));have p0 : W2.drew.cell? ⟨w.heap.size,1,none⟩=some (.slice (some ⟨g2,of2,none⟩) 4 cap2):=za0 k02 1;have p0':=za0 k02 1;clear hW3 u3 k02 k12 k22 hs2 d2
  go_wp2_with fail
  go_region_law (fail)
  clear hrun2 p0 p0' W2 W0;have s13:=za2 k13;have s23:=za2 k23
  have LT : ∀ X,Below W3.heap.size W3 X->(Instr.loadAt 192 (.pointer (some ⟨w.heap.size+1+1,0,none⟩))).run Tryz.prog X = .ok (.agg #[.int .i64 a,.int .i64 b,.int .i64 c,.int .i64 d]) X:=fun X bX =>
    ztv (o:=0) (xs:=[.int .i64 a,.int .i64 b,.int .i64 c,.int .i64 d]) ((bX.block _ s23).trans k23) (fun j v hj=>by
      match j,hj with
      | 0,hj | 1,hj | 2,hj | 3,hj=>simpa using hj) Tryz.underlying192 rfl zw3
  have HTR:=fun W=>zmh a b c d W
  have HRR:=fun W=>zjd a b c d a0 a1 b0 b1 c0 c1 e0 e1 W
  have HC1 : ∀ X,Below W3.heap.size W3 X->X.heap[w.heap.size+1]? = some (.cells #[.int .i64 0,.int .i64 0,.int .i64 0,.int .i64 0,.int .i64 0,.int .i64 0,.int .i64 0,.int .i64 0,.int .i64 0,.int .i64 0,.int .i64 0,.int .i64 0] 195 (0,0)):=fun X bX=>(bX.block _ s13).trans k13
  obtain ⟨TA,hTA⟩ : ∃ TA : Array Value,#[.int .i64 a,.int .i64 b,.int .i64 c,.int .i64 d,.int .i64 a0,.int .i64 a1,.int .i64 b0,.int .i64 b1,.int .i64 c0,.int .i64 c1,.int .i64 e0,.int .i64 e1]=TA:=⟨_,rfl⟩
  have HTA : Hid (#[.int .i64 a,.int .i64 b,.int .i64 c,.int .i64 d,.int .i64 a0,.int .i64 a1,.int .i64 b0,.int .i64 b1,.int .i64 c0,.int .i64 c1,.int .i64 e0,.int .i64 e1]=TA):=hTA;have hsz : TA.size=12:=by rw [<- hTA];rfl
  have hone : TA.all (·.oneCell')=true:=zep [a,b,c,d,a0,a1,b0,b1,c0,c1,e0,e1] TA (by rw [<- hTA];rfl);rw [hTA] at k23 HRR;have HC2 : ∀ X,Below W3.heap.size W3 X->X.heap[w.heap.size+1+1]? = some (.cells TA 195 (0,0)):=fun X bX=>(bX.block _ s23).trans k23
  have FIN : Hid (∀ X,Below W3.heap.size W3 X->(loadVar 195 ⟨w.heap.size+1,0,none⟩).run Tryz.prog (X.setRow (w.heap.size+1) TA) = .ok (.agg TA) (X.setRow (w.heap.size+1) TA)/\Below w.heap.size w (X.setRow (w.heap.size+1) TA)):=fun X bX =>
    ⟨run_loadVar_row (P:=Tryz.prog) _ (w.heap.size+1) 195 195 TA (0,0) _ (zd0 ((bX.block _ s13).trans k13)) Tryz.underlying195 rfl (by rw [hsz];exact zik),(za1 d3 bX).trans (zdq (by omega))⟩
  generalize zld [a,b,c,d] 4=bT at HV HTR;generalize zle [a,b,c,d] [(a0,a1),(b0,b1),(c0,c1),(e0,e1)] 4=bR at HV HRR
  obtain ⟨R,hR0⟩ : ∃ R : Nat->Value->Prop,R=fun j v=>match j with
    | 0=>v = .agg TA
    | 1=>v = .pointer (some ⟨w.heap.size+1+1,0,none⟩)
    | 2=>v = .agg #[.int .i64 a,.int .i64 b,.int .i64 c,.int .i64 d]
    | 3=>v = .bool bT
    | 4=>v = .bool bT
    | 5=>bT=true->v = .agg TA
    | 6=>bT=true->v = .bool bR
    | 7=>v = .bool (bT && bR)
    | 9=>v = .bool (bT && bR)
    | _=>True:=⟨_,rfl⟩
  have hR : Hid _:=hR0;have HTAH : Hid _:=hTA;clear hR0 hTA k23 k13 d3
  go_wp2_with fail
  refine zhn (I:=R1 _ 8 R _ W3 (fun X=>X.setRow (w.heap.size+1) TA)) (by kernel_rfl) (R1.start _ 8 _ _ W3 _) ?_ ?_
  · intro L a' x i hL hD hi h
    have hi10 : i < 10:=(zdo hi).1;have hnot:=(zdo hi).2.1;have hc : i=0\/i=1\/i=2\/i=3\/i=4\/i=5\/i=6\/i=7\/i=8\/i=9:=by omega
    have e4:=h.old 4 (by kernel_rfl);have e2:=h.old 2 (by kernel_rfl);rcases hc with rfl | rfl | rfl | rfl | rfl | rfl | rfl | rfl | rfl | rfl
    · have hn:=hD.not (i:=8) (k:=0) (by kernel_rfl) hnot
      refine zcg rfl rfl (zsh 195 4 rfl (w.heap.size+1+1) e4 TA 195 (0,0) (HC2 x (h.bel hn)) _ Tryz.underlying195 rfl (by rw [hsz];exact zik) ?_);exact h.val 0 27 _ x (by decide) (by kernel_rfl) (of_decide_eq_true (by kernel_rfl)) (by kernel_rfl) (by kernel_rfl) (.inr rfl) (by rw [hR.out];exact rfl)
    · refine zcg rfl rfl ?_
      unfold Oper.wp
      go_simp
      exact h.val 1 28 _ x (by decide) (by kernel_rfl) (of_decide_eq_true (by kernel_rfl)) (by kernel_rfl) (by kernel_rfl) (.inr rfl) (by rw [hR.out];exact rfl)
    · have hn : L.getD 8 false=false:=by
        rw [Bool.eq_false_iff];intro h8;have h6:=hD 8 6 h8 (by kernel_rfl);have h5:=hD 6 5 h6 (by kernel_rfl);have h4:=hD 5 4 h5 (by kernel_rfl);have h3:=hD 4 3 h4 (by kernel_rfl);have h2:=hD 3 2 h3 (by kernel_rfl);have:=zft hnot;rw [h2] at this;cases this
      have e28:=h.rel 1 28 (zbi hi (by kernel_rfl)) (by kernel_rfl);rw [hR.out] at e28;have e28' : a'.tmps.getD 28 undef = .pointer (some ⟨w.heap.size+1+1,0,none⟩):=e28;refine zcg rfl rfl (ztt 192 28 rfl _ e28' _ (LT x (h.bel hn)) ?_);exact h.val 2 29 _ x (by decide) (by kernel_rfl) (of_decide_eq_true (by kernel_rfl)) (by kernel_rfl) (by kernel_rfl) (.inr rfl) (by rw [hR.out];exact rfl)
    · have hn : L.getD 8 false=false:=by
        rw [Bool.eq_false_iff];intro h8;have h6:=hD 8 6 h8 (by kernel_rfl);have h5:=hD 6 5 h6 (by kernel_rfl);have h4:=hD 5 4 h5 (by kernel_rfl);have h3:=hD 4 3 h4 (by kernel_rfl);have:=zft hnot;rw [h3] at this;cases this
      have e29:=h.rel 2 29 (zbi hi (by kernel_rfl)) (by kernel_rfl);rw [hR.out] at e29;have e29' : a'.tmps.getD 29 undef = .agg #[.int .i64 a,.int .i64 b,.int .i64 c,.int .i64 d]:=e29;clear e29;refine zcg rfl rfl ?_;unfold Oper.wp
      go_simp
      go_at_call 214
      refine (HTR _).mono ?_;rintro e x1 ⟨rfl,b1⟩;exact h.val 3 30 _ x1 (by decide) (by kernel_rfl) (of_decide_eq_true (by kernel_rfl)) (by kernel_rfl) (by kernel_rfl) (.inl ⟨hn,b1⟩) (by rw [hR.out];exact rfl)
    · have e30:=h.rel 3 30 (zbi hi (by kernel_rfl)) (by kernel_rfl)
      rw [hR.out] at e30;have e30' : a'.tmps.getD 30 undef = .bool bT:=e30;refine zcg rfl rfl (zxp 30 rfl ?_);rw [e30'];exact h.val 4 31 _ x (by decide) (by kernel_rfl) (of_decide_eq_true (by kernel_rfl)) (by kernel_rfl) (by kernel_rfl) (.inr rfl) (by rw [hR.out];exact rfl)
    · have e31:=h.rel 4 31 (zbi hi (by kernel_rfl)) (by kernel_rfl)
      rw [hR.out] at e31;have e31' : a'.tmps.getD 31 undef = .bool bT:=e31
      have hn : L.getD 8 false=false:=by
        rw [Bool.eq_false_iff];intro h8;have h6:=hD 8 6 h8 (by kernel_rfl);have h5:=hD 6 5 h6 (by kernel_rfl);have:=zft hnot;rw [h5] at this;cases this
      refine zlp (j:=4) (s:=31) (b:=bT) (want:=true) rfl rfl (by kernel_rfl) (zpp e31' (by rw [h.sz];exact of_decide_eq_true (by kernel_rfl))) (fun eb=>?_) (fun eb=>?_)
      · refine zsh 195 4 rfl (w.heap.size+1+1) e4 TA 195 (0,0) (HC2 x (h.bel hn)) _ Tryz.underlying195 rfl (by rw [hsz];exact zik) ?_
        exact h.val 5 32 _ x (by decide) (by kernel_rfl) (of_decide_eq_true (by kernel_rfl)) (by kernel_rfl) (by kernel_rfl) (.inr rfl) (by rw [hR.out];exact fun _=>rfl)
      · exact h.val 5 32 _ x (by decide) (by kernel_rfl) (of_decide_eq_true (by kernel_rfl)) (by kernel_rfl) (by kernel_rfl) (.inr rfl) (by rw [hR.out];exact fun e=>absurd e eb)
    · have e31:=h.rel 4 31 (zbi hi (by kernel_rfl)) (by kernel_rfl)
      have e32:=h.rel 5 32 (zbi hi (by kernel_rfl)) (by kernel_rfl);rw [hR.out] at e31 e32;have e31' : a'.tmps.getD 31 undef = .bool bT:=e31;have hn:=hD.not (i:=8) (k:=6) (by kernel_rfl) hnot;refine zlp (j:=4) (s:=31) (b:=bT) (want:=true) rfl rfl (by kernel_rfl) (zpp e31' (by rw [h.sz];exact of_decide_eq_true (by kernel_rfl))) (fun eb=>?_) (fun eb=>?_)
      · have e32' : a'.tmps.getD 32 undef = .agg TA:=e32 eb
        clear e31 e32;unfold Oper.wp
        go_simp
        go_at_call 215
        refine (HRR _).mono ?_;rintro e x1 ⟨rfl,b1⟩;exact h.val 6 33 _ x1 (by decide) (by kernel_rfl) (of_decide_eq_true (by kernel_rfl)) (by kernel_rfl) (by kernel_rfl) (.inl ⟨hn,b1⟩) (by rw [hR.out];exact fun _=>rfl)
      · exact h.val 6 33 _ x (by decide) (by kernel_rfl) (of_decide_eq_true (by kernel_rfl)) (by kernel_rfl) (by kernel_rfl) (.inr rfl) (by rw [hR.out];exact fun e=>absurd e eb)
    · have e31:=h.rel 4 31 (zbi hi (by kernel_rfl)) (by kernel_rfl)
      have e33:=h.rel 6 33 (zbi hi (by kernel_rfl)) (by kernel_rfl);rw [hR.out] at e31 e33;have e31' : a'.tmps.getD 31 undef = .bool bT:=e31;refine zcg rfl rfl ?_;cases bT
      · clear e31 e33
        unfold Oper.wp
        go_simp
        exact h.val 7 34 _ x (by decide) (by kernel_rfl) (of_decide_eq_true (by kernel_rfl)) (by kernel_rfl) (by kernel_rfl) (.inr rfl) (by rw [hR.out];exact rfl)
      · have e33' : a'.tmps.getD 33 undef = .bool bR:=e33 rfl
        clear e31 e33;unfold Oper.wp
        go_simp
        exact h.val 7 34 _ x (by decide) (by kernel_rfl) (of_decide_eq_true (by kernel_rfl)) (by kernel_rfl) (by kernel_rfl) (.inr rfl) (by rw [hR.out];exact rfl)
    · have hn:=zft hnot
      have e27:=h.rel 0 27 (zbi hi (by kernel_rfl)) (by kernel_rfl);rw [hR.out] at e27;have e27' : a'.tmps.getD 27 undef = .agg TA:=e27;refine zcg rfl rfl (zpo 195 2 27 rfl rfl (w.heap.size+1) e2 TA e27' #[.int .i64 0,.int .i64 0,.int .i64 0,.int .i64 0,.int .i64 0,.int .i64 0,.int .i64 0,.int .i64 0,.int .i64 0,.int .i64 0,.int .i64 0,.int .i64 0] 195 (HC1 x (h.bel hn)) (by rw [hsz];exact zik) (by rw [hsz];rfl) hone ?_);exact h.store (by rw [hL];exact of_decide_eq_true (by kernel_rfl)) hn (by kernel_rfl)
    · have e34:=h.rel 7 34 (zbi hi (by kernel_rfl)) (by kernel_rfl)
      rw [hR.out] at e34;have e34' : a'.tmps.getD 34 undef = .bool (bT && bR):=e34;refine zcg rfl rfl (ztu 34 rfl ?_);rw [e34'];exact h.val 9 3 _ x (by decide) (by kernel_rfl) (of_decide_eq_true (by kernel_rfl)) (by kernel_rfl) (by kernel_rfl) (.inr rfl) (by rw [hR.out];exact rfl)
  · intro L a' x hL hD hr h
    have hall:=zpn hL hr (by kernel_rfl);obtain ⟨X,bX,rfl⟩:=h.fin (hall 8 (of_decide_eq_true (by kernel_rfl)));have e3:=h.rel 9 3 (hall 9 (of_decide_eq_true (by kernel_rfl))) (by kernel_rfl);rw [hR.out] at e3;have e3' : a'.tmps.getD 3 undef = .bool (bT && bR):=e3;have hfr:=h.frame [3,27,28,29,30,31,32,33,34] (by kernel_rfl)
    obtain ⟨f,hf⟩ : ∃ f : Nat->Value,(fun s=>a'.tmps.getD s undef)=f:=⟨_,rfl⟩
    rw [hf] at hfr;have f3 : f 3 = .bool (bT && bR):=by rw [<- hf];exact e3'
    have HF : Hid _:=FIN.out X bX;clear hf e3 e3' h hall hr hD hL hR HC1 HC2 FIN bX HTR HRR LT;subst hfr;simp only [Act.puts,f3,Act.put,List.setIfInBounds_toArray,List.set_cons_succ,List.set_cons_zero];generalize f 27=u27;generalize f 28=u28;generalize f 29=u29;generalize f 30=u30;generalize f 31=u31;generalize f 32=u32;generalize f 33=u33;generalize f 34=u34;clear f3 f
    show Exit.then _ _ _ _ _
    go_wp2_with fail
    refine bodyPost_ret (v:=.tuple #[.agg TA,.bool (bT && bR)]) ?_ rfl ⟨by rw [HTA.out,HV.out],HF.out.2⟩;simp [results,Tryz.results189,asAddr,HF.out.1]
set_option maxRecDepth 100000 in
theorem zpq (v1 v2 : Value) (ts : List Int) (rs : List (Int × Int)) (w : World) (h : ¬ (ts.length=4/\rs.length=4)) (r : RM w.heap.size w v1 v2 ts rs) :
    Calls Tryz.prog 189 #[.agg #[v1,v2]] w fun e w'=>e = .returned (.tuple #[.agg #[.int .i64 0,.int .i64 0,.int .i64 0,.int .i64 0,.int .i64 0,.int .i64 0,.int .i64 0,.int .i64 0,.int .i64 0,.int .i64 0,.int .i64 0,.int .i64 0],.bool false])/\Below w.heap.size w w':=by
  obtain ⟨o1,cap1,o2,cap2,rfl,rfl⟩:=r.forms;have hm1 : ts.length<=maxLen:=by have:=r.t.len;simpa using this
  have hm2 : rs.length<=maxLen:=by obtain ⟨_,_,_,hm,_⟩:=r.r;exact hm
  unfold maxLen at hm1 hm2;clear r;by_cases h1 : ts.length=4
  · have hn1 : ((ts.length : Int) != 4)=false:=by rw [h1];rfl
    have hn2 : ((rs.length : Int) != 4)=true:=by rw [bne_iff_ne];omega
    clear h h1
    go_enter Tryz.func189,Tryz.ntmps189
    go_wp2_with fail
    exact bodyPost_ret (v:=.tuple #[.agg #[.int .i64 0,.int .i64 0,.int .i64 0,.int .i64 0,.int .i64 0,.int .i64 0,.int .i64 0,.int .i64 0,.int .i64 0,.int .i64 0,.int .i64 0,.int .i64 0],.bool false]) (by simp [results,Tryz.results189,go_sem]) rfl ⟨rfl,by go_grown⟩
  · have hn1 : ((ts.length : Int) != 4)=true:=by rw [bne_iff_ne];omega
    clear h h1
    go_enter Tryz.func189,Tryz.ntmps189
    go_wp2_with fail
    exact bodyPost_ret (v:=.tuple #[.agg #[.int .i64 0,.int .i64 0,.int .i64 0,.int .i64 0,.int .i64 0,.int .i64 0,.int .i64 0,.int .i64 0,.int .i64 0,.int .i64 0,.int .i64 0,.int .i64 0],.bool false]) (by simp [results,Tryz.results189,go_sem]) rfl ⟨rfl,by go_grown⟩
theorem zrq (g off n cap : Nat) (W : World) : (binOp BinOp.eql 31 (.slice (some ⟨g,off,none⟩) n cap) (.slice none 0 0)).run Tryz.prog W = .ok (.bool false) W:=by kernel_rfl
theorem zmi (g off cap : Nat) (rs : List (Int × Int)) (w : World) (hn : rs.length<=1048576) (h : ReadsR 2 zdm w.heap.size w (.slice (some ⟨g,off,none⟩) rs.length cap) rs) :
    Calls Tryz.prog 196 #[.slice (some ⟨g,off,none⟩) rs.length cap] w fun e w'=>∃ v' : Value,e = .returned v'/\w'.ownsRow w.heap.size 43 2 v' rs.length (rs.flatMap zdm)/\v' ≠ .slice none 0 0/\Below w.heap.size w w':=by
  obtain ⟨j0,ji,jz0,jz1,jz2⟩:=info_parts Tryz.infoRep;have own0 : (w.alloc (.cells #[] 43)).ownsRow w.heap.size 43 2 (.slice (some ⟨w.heap.size,0,none⟩) 0 0) 0 []:=World.ownsRow_lit w #[] 0 (Nat.le_refl _) (Nat.zero_le _) rfl;have d0 : Below w.heap.size w (w.alloc (.cells #[] 43)):=za3 (Below.refl _ _)
  have HC : Hid (∀ j u,(rs.flatMap zdm)[j]? = some u->∃ g' off',some (⟨g,off,none⟩ : Addr)=some ⟨g',off',none⟩/\(w.alloc (.cells #[] 43)).cell? ⟨g',off'+j,none⟩=some u):=fun j u hj=>by
    have q:=zni zdy (by decide) (h.below d0) j u hj;rw [zlq] at q;exact ⟨g,off,rfl,q⟩
  have hnl : ∀ W : World,(binOp BinOp.eql 31 (.slice (some ⟨g,off,none⟩) rs.length cap) (.slice none 0 0)).run Tryz.prog W = .ok (.bool false) W:=fun W=>zrq g off rs.length cap W
  clear h
  go_enter Tryz.func196,Tryz.ntmps196
  go_wp2_with (at_builtin;refine zb5 rfl _ _ 31 rfl w.heap.size 43 j0 (.agg #[.int .i64 0,.int .i64 0]) 2 16 Tryz.underlying31 ji jz0 jz1 jz2 rfl (by decide) _ 0 [] rfl own0 (some ⟨g,off,none⟩) rs.length cap (rs.flatMap zdm) rfl ?c0 HC.out ?c2 ?c3 ?c4 ?c5 ?_)
  case c0=>exact zbb zdy rs
  case c2=>exact zpl rs
  case c3=>unfold maxLen;omega
  case c4=>omega
  case c5=>simp
  intro v' w' hown hgrow hnil;have hown2 : w'.ownsRow w.heap.size 43 2 v' rs.length (rs.flatMap zdm):=by simpa using hown
  have hnn : v' ≠ .slice none 0 0:=hnil;have hb : Below w.heap.size w w':=d0.grown hgrow (by simp) (fun q hq=>(own0.lt q hq).1);clear hown hgrow hnil own0 d0 HC
  go_wp2_with fail
  go_ret;exact ⟨v',rfl,hown2,hnn,hb⟩
set_option maxRecDepth 100000 in
theorem zf5 (a b c d a0 a1 b0 b1 c0 c1 e0 e1 : Int) (w : World) :
    Calls Tryz.prog 175 #[.agg #[.int .i64 a,.int .i64 b,.int .i64 c,.int .i64 d,.int .i64 a0,.int .i64 a1,.int .i64 b0,.int .i64 b1,.int .i64 c0,.int .i64 c1,.int .i64 e0,.int .i64 e1]] w fun e w'=>∃ u1 u2 : Value,e = .returned (.agg #[u1,u2])/\OwnM w.heap.size w' u1 u2 [a,b,c,d] [(a0,a1),(b0,b1),(c0,c1),(e0,e1)]/\Below w.heap.size w w':=by
  obtain ⟨W0,hW0,k0,k1,d0,z0⟩:=zc7 w #[.int .i64 a,.int .i64 b,.int .i64 c,.int .i64 d,.int .i64 a0,.int .i64 a1,.int .i64 b0,.int .i64 b1,.int .i64 c0,.int .i64 c1,.int .i64 e0,.int .i64 e1] #[.slice none 0 0,.slice none 0 0] 195 33;have HW0 : Hid (W0 = _):=hW0;have s0:=za2 k0;have s1:=za2 k1
  have RT : Hid (∀ X,Below W0.heap.size W0 X->Reads X.heap.size X (.slice (some ⟨w.heap.size,0,none⟩) 4 4) ([a,b,c,d].map (Value.int .i64))):=fun X b=>by
    have k:=(b.block _ s0).trans k0;refine ⟨some ⟨w.heap.size,0,none⟩,4,rfl,by unfold maxLen;simp,fun j u hj=>⟨w.heap.size,0,rfl,Nat.lt_of_lt_of_le s0 b.size,?_⟩,by simp⟩;rw [za0 k]
    match j,hj with
    | 0,hj | 1,hj | 2,hj | 3,hj=>simpa using hj
  have RR : Hid (∀ X,Below W0.heap.size W0 X->ReadsR 2 zdm X.heap.size X (.slice (some ⟨w.heap.size,4,none⟩) 4 4) [(a0,a1),(b0,b1),(c0,c1),(e0,e1)]):=fun X b=>by
    have k:=(b.block _ s0).trans k0;refine ⟨some ⟨w.heap.size,4,none⟩,4,rfl,by unfold maxLen;simp,fun i x hx=>⟨w.heap.size,4,rfl,Nat.lt_of_lt_of_le s0 b.size,fun j u hj=>?_⟩,by simp⟩;rw [za0 k]
    match i,hx with
    | 0,hx | 1,hx | 2,hx | 3,hx =>
      simp at hx;subst hx
      match j,hj with
      | 0,hj | 1,hj=>simpa [zdm] using hj
  have HK1 : Hid _:=k1;clear hW0 k0 z0
  go_enter Tryz.func175,Tryz.ntmps175
  go_upto_region 1 with fail
  rw [<- HW0.out];clear HW0 k1
  go_region_law (first
    | (go_simp;go_at_call 195;refine (zef _ [a,b,c,d] _ (by simp) (RT.out W0.drew (zar (Below.refl _ _)))).mono ?_;rintro e w5 ⟨v5,rfl,own5,hn5,b5⟩;obtain ⟨o5,c5,rfl⟩:=za4 own5;have B5 : Below W0.heap.size W0 w5:=za1 (zar (Below.refl _ _)) b5;dsimp only)
    | (go_simp;go_at_call 196;refine (zmi w.heap.size 4 4 [(a0,a1),(b0,b1),(c0,c1),(e0,e1)] _ (by simp) (RR.out w5 B5)).mono ?_;rintro e w6 ⟨v6,rfl,own6,hn6,b6⟩;obtain ⟨o6,c6,rfl⟩:=za4 own6;have B6 : Below W0.heap.size W0 w6:=za1 B5 b6;have k6:=(B6.block _ s1).trans HK1.out;have q0:=za0 k6 0;have q1:=za0 k6 1;have f0:=za8 k6 0;have f1:=za8 k6 1;dsimp only))
  all_goals
    have ow : OwnM w.heap.size w6 (.slice o5 4 c5) (.slice o6 4 c6) [a,b,c,d] [(a0,a1),(b0,b1),(c0,c1),(e0,e1)]:=⟨zah (za9 own5 b6) d0.size,zah own6 (Nat.le_trans d0.size B5.size)⟩
    have HS : Hid _:=zen w w6 _ _ _ _ (w.heap.size+1) [a,b,c,d] [(a0,a1),(b0,b1),(c0,c1),(e0,e1)] (by omega) k6 ow (za1 d0 B6);clear ow own5 own6 b5 b6 B5 B6 k6 q0 q1 f0 f1 RT RR HK1 hn5 hn6
    go_wp2_with fail
    exact bodyPost_ret (v:=.agg #[.slice o5 4 c5,.slice o6 4 c6]) (by simp [results,Tryz.results175,go_sem,za0 HS.out.1]) rfl ⟨_,_,rfl,HS.out.2⟩
theorem zo7 (v1 v2 : Value) (ts : List Int) (rs : List (Int × Int)) (w : World) (r : RM w.heap.size w v1 v2 ts rs) :
    Calls Tryz.prog 189 #[.agg #[v1,v2]] w fun e w'=>∃ a b c d a0 a1 b0 b1 c0 c1 e0 e1 : Int,e = .returned (.tuple #[.agg #[.int .i64 a,.int .i64 b,.int .i64 c,.int .i64 d,.int .i64 a0,.int .i64 a1,.int .i64 b0,.int .i64 b1,.int .i64 c0,.int .i64 c1,.int .i64 e0,.int .i64 e1],.bool (zdv ts rs)])/\(zdv ts rs=true->ts = [a,b,c,d]/\rs = [(a0,a1),(b0,b1),(c0,c1),(e0,e1)])/\Below w.heap.size w w':=by
  by_cases hl : ts.length=4/\rs.length=4
  · obtain ⟨a,b,c,d,rfl⟩ : ∃ a b c d,ts = [a,b,c,d]:=by
      match ts,hl.1 with
      | [a,b,c,d],_=>exact ⟨a,b,c,d,rfl⟩
    obtain ⟨⟨a0,a1⟩,⟨b0,b1⟩,⟨c0,c1⟩,⟨e0,e1⟩,rfl⟩ : ∃ p q r s,rs = [p,q,r,s]:=by
      match rs,hl.2 with
      | [p,q,r,s],_=>exact ⟨p,q,r,s,rfl⟩
    exact (zo6 v1 v2 a b c d a0 a1 b0 b1 c0 c1 e0 e1 w r).mono fun e w' h=>⟨a,b,c,d,a0,a1,b0,b1,c0,c1,e0,e1,h.1,fun _=>⟨rfl,rfl⟩,h.2⟩
  · rw [zph hl]
    exact (zpq v1 v2 ts rs w hl r).mono fun e w' h=>⟨0,0,0,0,0,0,0,0,0,0,0,0,h.1,(fun h=>by cases h),h.2⟩
set_option maxRecDepth 100000 in
theorem zka (w : World) :
    Calls Tryz.prog 128 #[] w fun e w'=>∃ u1 u2 : Value,e = .returned (.agg #[u1,u2])/\OwnM w.heap.size w' u1 u2 [0,0,0,0] [(0,0),(0,0),(0,0),(0,0)]/\Below w.heap.size w w':=by
  obtain ⟨W0,hW0,k0,d0,z0⟩:=zb4 w #[.slice none 0 0,.slice none 0 0] 33;have HW0 : Hid (W0 = _):=hW0;clear hW0 z0
  go_enter Tryz.func128,Tryz.ntmps128
  go_upto_region 1 with fail
  rw [<- HW0.out];clear HW0
  go_wp2_with fail
  refine (zf5 0 0 0 0 0 0 0 0 0 0 0 0 _).mono ?_;rintro e w1 ⟨u1,u2,rfl,own,b1⟩;replace k0:=kb0 b1 k0;obtain ⟨o1,c1,hu1⟩:=za4 own.t;obtain ⟨o2,c2,hu2⟩:=za4 own.r;have hu1' : u1 = .slice o1 4 c1:=hu1;have hu2' : u2 = .slice o2 4 c2:=hu2;subst hu1' hu2';clear hu1 hu2;have HS : Hid _:=zen w w1 _ _ _ _ w.heap.size _ _ (Nat.le_refl _) k0 (own.mono d0.size) (za1 d0 b1);obtain ⟨q0,q1⟩:=cq2 k0;obtain ⟨f0,f1⟩:=oq2 k0;clear own k0 b1 d0
  go_wp2_with fail
  exact bodyPost_ret (v:=.agg #[.slice o1 4 c1,.slice o2 4 c2]) (by simp [results,Tryz.results128,go_sem,za0 HS.out.1]) rfl ⟨_,_,rfl,HS.out.2⟩
end Go.Proofs.YtfkkapdofjhgpaaGreatDoor
namespace Go.Proofs.YtfkkapdofjhgpaaGreatDoor
open Go.RowKit
set_option linter.unusedVariables false
set_option maxRecDepth 100000
def zf7 : List Int × List (Int × Int):=([0,0,0,0],[(0,0),(0,0),(0,0),(0,0)])
theorem zje (w : World) :
    Calls Tryz.prog 134 #[] w fun e w'=>∃ u1 u2 : Value,e = .returned (.agg #[u1,u2])/\OwnM w.heap.size w' u1 u2 zf7.1 zf7.2/\Below w.heap.size w w':=zk6 w
end Go.Proofs.YtfkkapdofjhgpaaGreatDoor
