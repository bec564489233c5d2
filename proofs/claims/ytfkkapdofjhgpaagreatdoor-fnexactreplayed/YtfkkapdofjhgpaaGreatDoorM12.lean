import Derived.Laws.Cover1
import Derived.Deep.CutBlock
import Derived.Deep.DeepCutAuto
import Derived.Test.YtfkkapdofjhgpaaGreatDoorM09
import Derived.Test.YtfkkapdofjhgpaaGreatDoorM11
set_option maxHeartbeats 12800000
namespace Go.Proofs.YtfkkapdofjhgpaaGreatDoor
open Go.RowKit
set_option linter.unusedVariables false
set_option maxRecDepth 100000
structure Fr (G : Nat->Prop) (base : Nat) (w w' : World) : Prop where
  b : Below base w w'
  g : ∀ k,G k->k < w.heap.size->w'.heap[k]? = w.heap[k]?
theorem Fr.trans {G : Nat->Prop} {base : Nat} {x y z : World} (h : Fr G base x y) (k : Fr G base y z) : Fr G base x z :=
  ⟨h.b.trans k.b,fun i hi hl=>(k.g i hi (Nat.lt_of_lt_of_le hl h.b.size)).trans (h.g i hi hl)⟩
theorem Fr.drew {G : Nat->Prop} {base : Nat} {x y : World} (h : Fr G base x y) : Fr G base x y.drew:=⟨h.b.drew,h.g⟩
theorem zdu {G : Nat->Prop} {base : Nat} {w w' : World} (hb : base<=w.heap.size) (d : Below w.heap.size w w') : Fr G base w w':=⟨d.mono hb,fun k _ hl=>d.block k hl⟩
theorem Fr.set {G : Nat->Prop} {base : Nat} {x y : World} (h : Fr G base x y) (p : Addr) (hb : base<=p.block) (hg : ¬ G p.block) (u : Value) : Fr G base x (y.setCell p u) :=
  ⟨h.b.setCell hb u,fun k hk hl=>(Below.heap_setCell y p u k (fun e=>hg (by rw [<- e];exact hk))).trans (h.g k hk hl)⟩
theorem zx6 {G S : Nat->Prop} {base : Nat} {w w' : World} (k : Only S w w') (hb : base<=w.heap.size) (h1 : ∀ i,S i->base<=i) (h2 : ∀ i,S i->¬ G i) : Fr G base w w' :=
  ⟨k.toBelow hb h1,fun i hi hl=>k.block i hl (fun hs=>h2 i hs hi)⟩
structure HoldsSh (T : TypeId) : Prop where
  i : T ≠ 2
  b : T ≠ 117
  r : T ≠ 172
  rp : T ≠ 43
  o : T ≠ 37
theorem holds_shelf : HoldsSh 30:=⟨by decide,by decide,by decide,by decide,by decide⟩
structure ShSg (G : Nat->Prop) (C : Array Value) (T : TypeId) (off base b : Nat) (w : World) (v1 v2 vb : Value) (bks : List Bk) (s : Sf) : Prop where
  box : w.heap[b]? = some (.cells (C.setIfInBounds (off+2) vb) T (0,0))
  hT : HoldsSh T
  e0 : C[off]? = some v1
  e1 : C[off+1]? = some v2
  e2 : off+2 < C.size
  lo : base<=b
  pool : OwnP base w v1 v2 s.cs s.ps
  books : OwnB base w vb bks
  eq : bks.map Bk.pb=s.bs
  ng : ∀ i,ShW b v1 v2 vb i->¬ G i
  gl : ∀ k,G k->k < w.heap.size
variable {G : Nat->Prop} {C : Array Value} {T : TypeId} {off base b : Nat} {w w' : World} {v1 v2 vb : Value} {bks : List Bk} {s : Sf}
theorem ShSg.lt (h : ShSg G C T off base b w v1 v2 vb bks s) : b < w.heap.size:=za2 h.box
theorem ShSg.hbase (h : ShSg G C T off base b w v1 v2 vb bks s) : base<=w.heap.size:=Nat.le_trans h.lo (Nat.le_of_lt h.lt)
theorem ShSg.c0 (h : ShSg G C T off base b w v1 v2 vb bks s) : w.cell? ⟨b,off,none⟩=some v1 :=
  (za0 h.box off).trans ((Array.getElem?_setIfInBounds_ne (by omega)).trans h.e0)
theorem ShSg.c1 (h : ShSg G C T off base b w v1 v2 vb bks s) : w.cell? ⟨b,off+1,none⟩=some v2 :=
  (za0 h.box (off+1)).trans ((Array.getElem?_setIfInBounds_ne (by omega)).trans h.e1)
theorem ShSg.c2 (h : ShSg G C T off base b w v1 v2 vb bks s) : w.cell? ⟨b,off+2,none⟩=some vb :=
  (za0 h.box (off+2)).trans (by simp [h.e2])
theorem ShSg.f2 (h : ShSg G C T off base b w v1 v2 vb bks s) : w.frozen? ⟨b,off+2,none⟩=false:=za8 h.box (off+2)
theorem ShSg.n1 (h : ShSg G C T off base b w v1 v2 vb bks s) : v1.ownBlock ≠ some b:=zaa h.pool.c h.box h.hT.i
theorem ShSg.n2 (h : ShSg G C T off base b w v1 v2 vb bks s) : v2.ownBlock ≠ some b:=zaa h.pool.p h.box h.hT.i
theorem ShSg.not_box (h : ShSg G C T off base b w v1 v2 vb bks s) {n : Nat} {cs : Array Value} {U : TypeId} (k : w.heap[n]? = some (.cells cs U (0,0))) (hU : T ≠ U) : ¬ n=b:=fun e=>by
  have hb:=h.box;rw [<- e,k] at hb;simp at hb;exact hU hb.2.symm
theorem ShSg.below (h : ShSg G C T off base b w v1 v2 vb bks s) (k : Below w.heap.size w w') : ShSg G C T off base b w' v1 v2 vb bks s :=
  ⟨(k.block _ h.lt).trans h.box,h.hT,h.e0,h.e1,h.e2,h.lo,h.pool.below k,h.books.below k,h.eq,h.ng,fun i hi=>Nat.lt_of_lt_of_le (h.gl i hi) k.size⟩
theorem ShSg.forms (h : ShSg G C T off base b w v1 v2 vb bks s) : ∀ x ∈ bks,∃ o k cp,x.m = .slice o k cp:=fun x hx=>by
  obtain ⟨o,cp,e⟩:=za4 (h.books.maps x hx);exact ⟨o,_,cp,e⟩
theorem ShSg.len (h : ShSg G C T off base b w v1 v2 vb bks s) : bks.length=s.bs.length:=by rw [<- h.eq,List.length_map]
theorem ShSg.pooled (h : ShSg G C T off base b w v1 v2 vb bks s) {cs ps : List Int} (own : OwnP base w' v1 v2 cs ps) (k : Only (fun i=>v1.ownBlock=some i\/v2.ownBlock=some i) w w') : ShSg G C T off base b w' v1 v2 vb bks ⟨cs,ps,s.bs⟩:=by
  have nb : ∀ (e : TypeId) (kk n : Nat) (v : Value) (xs : List Value),2 ≠ e->w.ownsRow base e kk v n xs->w'.ownsRow base e kk v n xs:=fun e kk n v xs he hr =>
    zbd hr k (fun g hg hS=>by
      rcases hS with q | q
      · exact zbh hr h.pool.c he g q hg
      · exact zbh hr h.pool.p he g q hg)
  refine ⟨?_,h.hT,h.e0,h.e1,h.e2,h.lo,own,⟨nb _ _ _ _ _ (by decide) h.books.row,fun x hx=>nb _ _ _ _ _ (by decide) (h.books.maps x hx)⟩,h.eq,h.ng,fun i hi=>Nat.lt_of_lt_of_le (h.gl i hi) k.size⟩;refine (k.block b h.lt (fun hS=>?_)).trans h.box;rcases hS with q | q
  · exact h.n1 q
  · exact h.n2 q
theorem ShSg.only_below (h : ShSg G C T off base b w v1 v2 vb bks s) (k : Only (ShW b v1 v2 vb) w w') : Fr G base w w' :=
  zx6 k h.hbase (fun i hi=>by
    rcases hi with q | q | q | q
    · rw [q];exact h.lo
    · exact (h.pool.c.lt i q).1
    · exact (h.pool.p.lt i q).1
    · exact (h.books.row.lt i q).1) h.ng
theorem ShSg.pool_only (h : ShSg G C T off base b w v1 v2 vb bks s) (k : Only (fun i=>v1.ownBlock=some i\/v2.ownBlock=some i) w w') : Fr G base w w' :=
  h.only_below (k.mono (fun i hi=>hi.elim (fun q=>.inr (.inl q)) (fun q=>.inr (.inr (.inl q)))))
theorem ShSg.box_only (h : ShSg G C T off base b w v1 v2 vb bks s) (k : Only (fun i=>i=b) w w') : Fr G base w w' :=
  h.only_below (k.mono (fun i hi=>.inl hi))
theorem ShSg.put {g n cap : Nat} (h : ShSg G C T off base b w v1 v2 (.slice (some ⟨g,0,none⟩) n cap) bks s) (i j : Nat) (hi : i < bks.length) (hj : j < 5) (y : Bk) (u : Value) (hy : (bookC bks[i]).set j u=bookC y) (hm : w.ownsRow base 172 3 y.m y.rs.length (y.rs.flatMap zak)) :
    ShSg G C T off base b (w.setCell ⟨g,i * 5+j,none⟩ u) v1 v2 (.slice (some ⟨g,0,none⟩) n cap) (bks.set i y) ⟨s.cs,s.ps,s.bs.set i y.pb⟩/\Fr G base w (w.setCell ⟨g,i * 5+j,none⟩ u):=by
  have hg:=h.books.row.lt g rfl;have ub : Upto g w (w.setCell ⟨g,i * 5+j,none⟩ u):=(Upto.refl _ _).setCell ⟨g,i * 5+j,none⟩ (.inl rfl) _
  obtain ⟨cur,hcur⟩ : ∃ cur,w.heap[g]? = some (.cells cur 117 (0,0)):=by
    rcases h.books.row.2 with ⟨e,_⟩ | ⟨g',cap',cur,e,_,hh,_⟩
    · simp at e
    · simp only [Value.slice.injEq,Option.some.injEq,Addr.mk.injEq,and_true] at e
      obtain ⟨rfl,_⟩:=e;exact ⟨cur,hh⟩
  have st : ∀ (e : TypeId) (kk n : Nat) (v : Value) (xs : List Value),117 ≠ e->w.ownsRow base e kk v n xs->(w.setCell ⟨g,i * 5+j,none⟩ u).ownsRow base e kk v n xs:=fun e kk n v xs he hr =>
    zai hr (fun q hq hqv=>ub.block q hq (fun hx=>zaa hr hcur he (by rw [<- hx];exact hqv)))
  refine ⟨⟨?_,h.hT,h.e0,h.e1,h.e2,h.lo,⟨st _ _ _ _ _ (by decide) h.pool.c,st _ _ _ _ _ (by decide) h.pool.p,h.pool.apart⟩,⟨zb2 zae h.books.row i j _ y u (List.getElem?_eq_getElem hi) hj hy,fun x hx=>?_⟩,?_,h.ng,fun k hk=>Nat.lt_of_lt_of_le (h.gl k hk) ub.size⟩,h.only_below ((Only.refl _ w).setCell ⟨g,i * 5+j,none⟩ (.inr (.inr (.inr rfl))) _)⟩
  · exact (ub.block b h.lt (fun e=>h.not_box hcur h.hT.b e.symm)).trans h.box
  · rcases List.mem_or_eq_of_mem_set hx with q | rfl
    · exact st _ _ _ _ _ (by decide) (h.books.maps x q)
    · exact st _ _ _ _ _ (by decide) hm
  · rw [<- h.eq,List.map_set]
theorem ShSg.rebook {vb' : Value} {bks' : List Bk} (h : ShSg G C T off base b w v1 v2 vb bks s) (nb : OwnB base w vb' bks') (hn : ∀ g,vb'.ownBlock=some g->¬ G g) : ShSg G C T off base b (w.setCell ⟨b,off+2,none⟩ vb') v1 v2 vb' bks' ⟨s.cs,s.ps,bks'.map Bk.pb⟩/\Fr G base w (w.setCell ⟨b,off+2,none⟩ vb'):=by
  have ub : Upto b w (w.setCell ⟨b,off+2,none⟩ vb'):=(Upto.refl _ _).setCell ⟨b,off+2,none⟩ (.inl rfl) _
  have st : ∀ (e : TypeId) (kk n : Nat) (v : Value) (xs : List Value),T ≠ e->w.ownsRow base e kk v n xs->(w.setCell ⟨b,off+2,none⟩ vb').ownsRow base e kk v n xs:=fun e kk n v xs he hr =>
    zai hr (fun q hq hqv=>ub.block q hq (fun hx=>zaa hr h.box he (by rw [<- hx];exact hqv)))
  have hbx:=zab h.box (off+2) vb';rw [Array.setIfInBounds_setIfInBounds] at hbx
  exact ⟨⟨hbx,h.hT,h.e0,h.e1,h.e2,h.lo,⟨st _ _ _ _ _ h.hT.i h.pool.c,st _ _ _ _ _ h.hT.i h.pool.p,h.pool.apart⟩,⟨st _ _ _ _ _ h.hT.b nb.row,fun x hx=>st _ _ _ _ _ h.hT.r (nb.maps x hx)⟩,rfl,fun i hi=>by
    rcases hi with q | q | q | q
    · exact h.ng i (.inl q)
    · exact h.ng i (.inr (.inl q))
    · exact h.ng i (.inr (.inr (.inl q)))
    · exact hn i q,fun k hk=>Nat.lt_of_lt_of_le (h.gl k hk) ub.size⟩,h.box_only ((Only.refl (fun i=>i=b) w).setCell ⟨b,off+2,none⟩ rfl _)⟩
theorem ShSg.keeps {n : Nat} {cs : Array Value} {U : TypeId} (h : ShSg G C T off base b w v1 v2 vb bks s) (k : Only (ShW b v1 v2 vb) w w') (hb : w.heap[n]? = some (.cells cs U (0,0))) (t1 : T ≠ U) (t2 : U ≠ 2) (t3 : U ≠ 117) : w'.heap[n]? = some (.cells cs U (0,0)):=by
  refine (k.block n (za2 hb) (fun hi=>?_)).trans hb;rcases hi with q | q | q | q
  · exact h.not_box hb t1 q
  · exact zaa h.pool.c hb t2 q
  · exact zaa h.pool.p hb t2 q
  · exact zaa h.books.row hb t3 q
theorem ShSg.keeps_b {n : Nat} {cs : Array Value} {U : TypeId} (h : ShSg G C T off base b w v1 v2 vb bks s) (k : Only (fun i=>i=b) w w') (hb : w.heap[n]? = some (.cells cs U (0,0))) (t1 : T ≠ U) : w'.heap[n]? = some (.cells cs U (0,0)) :=
  (k.block n (za2 hb) (fun hi=>h.not_box hb t1 hi)).trans hb
theorem ShSg.beside {gp j B n cap k : Nat} {xs : List Value} (h : ShSg G C T off base b w v1 v2 vb bks s) (hrow : w.ownsRow B 2 1 (.slice (some ⟨gp,0,none⟩) n cap) k xs) (hlt : ∀ q,v1.ownBlock=some q\/v2.ownBlock=some q->q < B) (u : Value) : ShSg G C T off base b (w.setCell ⟨gp,j,none⟩ u) v1 v2 vb bks s:=by
  have ub : Upto gp w (w.setCell ⟨gp,j,none⟩ u):=(Upto.refl _ _).setCell ⟨gp,j,none⟩ (.inl rfl) _;have hB:=(hrow.lt gp rfl).1
  have ap : ∀ (e : TypeId) (kk n : Nat) (v : Value) (xs : List Value),w.ownsRow base e kk v n xs->v.ownBlock ≠ some gp->(w.setCell ⟨gp,j,none⟩ u).ownsRow base e kk v n xs:=fun e kk n v xs hr hne =>
    zai hr (fun q hq hqv=>ub.block q hq (fun hx=>hne (by rw [<- hx];exact hqv)))
  refine ⟨(ub.block b h.lt (fun e=>?_)).trans h.box,h.hT,h.e0,h.e1,h.e2,h.lo,⟨ap _ _ _ _ _ h.pool.c (fun e=>?_),ap _ _ _ _ _ h.pool.p (fun e=>?_),h.pool.apart⟩,⟨ap _ _ _ _ _ h.books.row (zbh h.books.row hrow (by decide) gp rfl),fun x hx=>ap _ _ _ _ _ (h.books.maps x hx) (zbh (h.books.maps x hx) hrow (by decide) gp rfl)⟩,h.eq,h.ng,fun k hk=>Nat.lt_of_lt_of_le (h.gl k hk) ub.size⟩
  · exact zaa hrow h.box h.hT.i (by rw [e];rfl)
  · have:=hlt gp (.inl e);omega
  · have:=hlt gp (.inr e);omega
theorem ShSg.beyond {n i : Nat} {cs : Array Value} {U : TypeId} (h : ShSg G C T off base b w v1 v2 vb bks s) (hk : w.heap[n]? = some (.cells cs U (0,0))) (t1 : T ≠ U) (t2 : U ≠ 2) (t3 : U ≠ 117) (t4 : U ≠ 172) (u : Value) : ShSg G C T off base b (w.setCell ⟨n,i,none⟩ u) v1 v2 vb bks s :=
  ⟨(Below.heap_setCell w ⟨n,i,none⟩ u b (fun e=>h.not_box hk t1 e.symm)).trans h.box,h.hT,h.e0,h.e1,h.e2,h.lo,⟨zem h.pool.c hk t2 i u,zem h.pool.p hk t2 i u,h.pool.apart⟩,⟨zem h.books.row hk t3 i u,fun x hx=>zem (h.books.maps x hx) hk t4 i u⟩,h.eq,h.ng,fun k hk=>by simpa [World.setCell] using h.gl k hk⟩
theorem ShSt.g (h : ShSt base b w v1 v2 vb bks s) : ShSg (fun _=>False) #[v1,v2,vb] 30 0 base b w v1 v2 vb bks s :=
  ⟨h.box,holds_shelf,rfl,rfl,by simp,h.lo,h.pool,h.books,h.eq,fun _ _ q=>q,fun _ q=>q.elim⟩
theorem ShSg.st {x : Value} (h : ShSg G #[v1,v2,x] 30 0 base b w v1 v2 vb bks s) : ShSt base b w v1 v2 vb bks s:=⟨h.box,h.lo,h.pool,h.books,h.eq⟩
theorem zse (b off base : Nat) (v1 v2 : Value) (cs ps : List Int) (v : Int) (w : World) (p0 : w.cell? ⟨b,off,none⟩=some v1) (p1 : w.cell? ⟨b,off+1,none⟩=some v2) (n1 : v1.ownBlock ≠ some b) (n2 : v2.ownBlock ≠ some b) (own : OwnP base w v1 v2 cs ps) (hc : 1<=cs.length) (hc2 : cs.length<=1048576) (hp : ps.length=cs.length) :
    Calls Tryz.prog 147 #[.pointer (some ⟨b,off,none⟩),.int .i64 v] w fun e w'=>e = .returned (.int .i64 (tookAt cs))/\OwnP base w' v1 v2 (tookC cs) (tookP cs ps v)/\Only (fun i=>v1.ownBlock=some i\/v2.ownBlock=some i) w w':=by
  obtain ⟨g1,c1,g2,c2,rfl,rfl,hne⟩:=zfs own hc hp;have hn1 : ¬ b=g1:=fun e=>n1 (by rw [e];rfl)
  have hn2 : ¬ b=g2:=fun e=>n2 (by rw [e];rfl)
  have hn3 : ¬ g1=b:=fun e=>hn1 e.symm
  have hn4 : ¬ g2=b:=fun e=>hn2 e.symm
  have hne' : ¬ g2=g1:=fun e=>hne e.symm
  have hlc:=own.c.cellAt;have hlp:=own.p.cellAt;have hfc:=own.c.frozenAt;have hfp:=own.p.frozenAt;have HP : Hid (ps.length=cs.length):=hp;have hp1 : cs.length<=ps.length:=by omega
  have HLC : Hid (∀ j,j < cs.length * 1->w.cell? ⟨g1,j,none⟩=(cs.map (Value.int .i64))[j]?):=hlc;have HLP : Hid (∀ j,j < ps.length * 1->w.cell? ⟨g2,j,none⟩=(ps.map (Value.int .i64))[j]?):=hlp;clear hlc hlp hp n1 n2
  go_enter Tryz.func147,Tryz.ntmps147
  go_wp2_with fail
  go_loopw [5] (fun i wr=>∃ k : Nat,k<=cs.length/\i = .int .i64 k/\(∀ j,j < k->cs.getD j 0 ≠ 0)/\wr=w) (fun i _=>cs.length - (intOf i).toNat)
  case atStart=>exact ⟨0,Nat.zero_le _,rfl,fun j hj=>by omega,rfl⟩
  case round =>
    obtain ⟨q,hq,rfl,hall,rfl⟩:=hrel;have HA : Hid (∀ j,j < q->cs.getD j 0 ≠ 0):=hall;clear hall;by_cases hlt : q < cs.length
    · have cc1:=(HLC.out q (by omega)).trans (getD_some cs q hlt)
      have cc2:=(HLP.out q (by omega)).trans (getD_some ps q (by omega));have hq2 : (q : Int) < (ps.length : Int):=by omega
      have HN : Hid (cs.getD q 0 ≠ 0->∀ j,j < q+1->cs.getD j 0 ≠ 0):=fun h j hj=>by
        rcases Nat.lt_or_ge j q with r | r
        · exact HA.out j r
        · obtain rfl : j=q:=by omega
          exact h
      have HF : Hid (cs.getD q 0=0->zaf cs=q):=fun h=>zia cs q hlt h HA.out
      by_cases hz : cs.getD q 0=0
      · have hf:=HF.out hz
        have HR : Hid (tookAt cs=q/\tookC cs=cs.set q 1/\tookP cs ps v=ps.set q v):=by
          rw [Hid,tookAt,tookC,tookP,hf,if_pos hlt,if_pos hlt,if_pos hlt];exact ⟨rfl,rfl,rfl⟩
        have own1:=own.set1 q 1;have own2:=own1.set2 q v;have HO : Hid _:=own2;rw [hz] at cc1;clear HN HF HA own1 own2 own hf hz HLC HLP;generalize ps.getD q 0=y at cc2
        go_wp2_with fail
        go_ret;refine ⟨zam HR.out.1.symm,?_,((Only.refl _ _).setCell _ (.inl rfl) _).setCell _ (.inr rfl) _⟩;rw [HR.out.2.1,HR.out.2.2];exact HO.out
      · have HNN : Hid _:=HN.out hz
        have hz1 : (cs.getD q 0 == 0)=false:=by simpa using hz
        clear HN HF HA HLC HLP cc2;generalize cs.getD q 0=x at cc1 hz1 hz
        go_wp2_with fail
        go_roundw
        case rel=>exact ⟨q+1,by omega,by go_num,HNN.out,by trivial⟩
        case measure=>simp [intOf];omega
    · have hf:=zgl cs (fun j hj=>HA.out j (by omega))
      have HR : Hid (tookAt cs = -1/\tookC cs=cs/\tookP cs ps v=ps):=by
        rw [Hid,tookAt,tookC,tookP,hf,if_neg (by omega),if_neg (by omega),if_neg (by omega)];exact ⟨rfl,rfl,rfl⟩
      have HO : Hid _:=own;clear own hf HA HLC HLP
      go_wp2_with fail
      go_ret;refine ⟨zam HR.out.1.symm,?_,Only.refl _ _⟩;rw [HR.out.2.1,HR.out.2.2];exact HO.out
theorem zo1 (b off base k : Nat) (v1 v2 : Value) (cs ps : List Int) (w : World) (p0 : w.cell? ⟨b,off,none⟩=some v1) (p1 : w.cell? ⟨b,off+1,none⟩=some v2) (n1 : v1.ownBlock ≠ some b) (n2 : v2.ownBlock ≠ some b) (own : OwnP base w v1 v2 cs ps) (hc : k < cs.length) (hc2 : cs.length<=1048576) (hp : ps.length=cs.length) (hr : 1<=cs.getD k 0/\cs.getD k 0<=400) :
    Calls Tryz.prog 145 #[.pointer (some ⟨b,off,none⟩),.int .i64 k] w fun e w'=>e = .returned (.tuple #[])/\OwnP base w' v1 v2 (cs.set k (cs.getD k 0 - 1)) (if cs.getD k 0=1 then ps.set k 0 else ps)/\Only (fun i=>v1.ownBlock=some i\/v2.ownBlock=some i) w w':=by
  obtain ⟨g1,c1,g2,c2,rfl,rfl,hne⟩:=zfs own (by omega) hp;have hn1 : ¬ b=g1:=fun e=>n1 (by rw [e];rfl)
  have hn2 : ¬ b=g2:=fun e=>n2 (by rw [e];rfl)
  have hn3 : ¬ g1=b:=fun e=>hn1 e.symm
  have hn4 : ¬ g2=b:=fun e=>hn2 e.symm
  have hne' : ¬ g2=g1:=fun e=>hne e.symm
  have cc1:=(own.c.cellAt k (by omega)).trans (getD_some cs k hc);have cc2:=(own.p.cellAt k (by omega)).trans (getD_some ps k (by omega));have fc:=own.c.frozenAt k;have fp:=own.p.frozenAt k;have own1:=own.set1 k (cs.getD k 0 - 1);have HO : Hid _:=And.intro own1 (own1.set2 k 0);have i0 : (0 : Int)<=(k : Int):=by omega
  have i1 : (k : Int) < (cs.length : Int):=by omega
  have i2 : (k : Int) < (ps.length : Int):=by omega
  clear own own1 n1 n2 hp;generalize cs.getD k 0=c at *;generalize ps.getD k 0=y at cc2;by_cases hc1 : c=1
  · subst hc1
    rw [if_pos rfl]
    go_enter Tryz.func145,Tryz.ntmps145
    go_wp2_with fail
    go_region
    go_wp2_with fail
    exact bodyPost_end (results_none rfl _ _ _) rfl ⟨rfl,HO.out.2.below ((Below.refl _ _).drew),(((Only.refl _ _).setCell _ (.inl rfl) _).setCell _ (.inr rfl) _).below ((Below.refl _ _).drew)⟩
  · rw [if_neg hc1]
    have hz : (c - 1 == 0)=false:=by simp;omega
    go_enter Tryz.func145,Tryz.ntmps145
    go_wp2_with fail
    go_region
    go_wp2_with fail
    exact bodyPost_end (results_none rfl _ _ _) rfl ⟨rfl,HO.out.1.below ((Below.refl _ _).drew),((Only.refl _ _).setCell _ (.inl rfl) _).below ((Below.refl _ _).drew)⟩
theorem zl8 (G : Nat->Prop) (C : Array Value) (T : TypeId) (off base b g cap i size : Nat) (v1 v2 : Value) (bks : List Bk) (s : Sf) (w : World) (hi : i < bks.length) (hs : size<=16) (inv : ShInv s) (st : ShSg G C T off base b w v1 v2 (.slice (some ⟨g,0,none⟩) bks.length cap) bks s) :
    Calls Tryz.prog 142 #[.pointer (some ⟨b,off,none⟩),.int .i64 i,.int .i64 size] w fun e w'=>∃ bks' : List Bk,e = .returned (.tuple #[])/\bks'.length=bks.length/\ShSg G C T off base b w' v1 v2 (.slice (some ⟨g,0,none⟩) bks.length cap) bks' (cutBook s i size)/\Only (ShW b v1 v2 (.slice (some ⟨g,0,none⟩) bks.length cap)) w w':=by
  have hib : i < s.bs.length:=by rw [<- st.len];exact hi
  have hat : s.bs[i]=bks[i].pb:=by
    have:=st.eq
    subst_vars
    simp [<- this]
  have hmap:=(zaw (inv.oks _ (List.getElem_mem hib))).2.2.2.1;have hbk : zau s.bs i=s.bs[i]:=zbz s.bs i hib;have hbase : base<=w.heap.size:=st.hbase
  have hvlt : ∀ q,v1.ownBlock=some q\/v2.ownBlock=some q->q < w.heap.size:=fun q h=>by
    rcases h with h | h
    · exact (st.pool.c.lt q h).2
    · exact (st.pool.p.lt q h).2
  have HNX : Hid _:=fun m (hm : size+m < 16)=>zvj inv i hib size m hm
  have HDN : Hid _:=fun m (hm : 16<=size+m)=>zvk (s:=s) i hib size m hm
  have hlen24:=inv.n1
  have HCB : Hid (cutBook s i size=⟨(dropAll (s.cs,s.ps) ((za7 s.bs[i].rs).drop size)).1,(dropAll (s.cs,s.ps) ((za7 s.bs[i].rs).drop size)).2,s.bs.set i ⟨bks[i].nm,bks[i].sz,mapOf (cutAt (za7 s.bs[i].rs) size),bks[i].fx,bks[i].ep⟩⟩):=by
    rw [Hid,cutBook,hbk,hat]
    rfl
  have hrs : s.bs[i].rs=bks[i].rs:=by rw [hat];rfl
  rw [hrs] at hmap HNX HDN HCB;obtain ⟨⟨a0,a1,a2,a3,a4⟩,f0,f1,f2,f3,f4⟩:=zaz st.books.row i hi;have rm : ReadsR 3 zak w.heap.size w bks[i].m bks[i].rs:=ReadsR.of_own zat (st.books.maps _ (List.getElem_mem hi))
  obtain ⟨x,hx⟩ : ∃ x,bks[i]=x:=⟨_,rfl⟩
  have HX : Hid (bks[i]=x):=hx;rw [hx] at a0 a1 a2 a3 a4 rm hmap HNX HDN HCB;clear hx hrs hat hbk;obtain ⟨nm,sz,m0,rs,fx,ep⟩:=x;simp only at a0 a1 a2 a3 a4 rm hmap HNX HDN HCB;obtain ⟨o',cap',hmf⟩:=rm.form;subst hmf;have pB:=st.c2;have i0 : (0 : Int)<=(i : Int):=by omega
  have i1 : (i : Int) < (bks.length : Int):=by omega
  have HMP : Hid _:=hmap;have hpl:=zac rs;clear hmap a0 a1 a3 a4 f0 f1 f3 f4
  go_enter Tryz.func142,Tryz.ntmps142
  go_wp2_with fail
  refine (zco _ rs _ HMP.out rm).mono ?_;rintro e w1 ⟨gp,cp,rfl,own1,b1⟩;have st1:=st.below b1;have hb1 : Only (ShW b v1 v2 (.slice (some ⟨g,0,none⟩) bks.length cap)) w w1:=(Only.refl _ w).below b1;have H0 : Hid _:=And.intro st1 (And.intro own1 hb1);clear a2 f2 pB b1 st1 own1 hb1 rm
  go_wp2_with fail
  go_loopw [8] (fun k wr=>∃ q : Nat,size<=q/\q<=16/\k = .int .i64 q/\ShSg G C T off base b wr v1 v2 (.slice (some ⟨g,0,none⟩) bks.length cap) bks ⟨(dropAll (s.cs,s.ps) (((za7 rs).drop size).take (q - size))).1,(dropAll (s.cs,s.ps) (((za7 rs).drop size).take (q - size))).2,s.bs⟩/\wr.ownsRow w.heap.size 2 1 (.slice (some ⟨gp,0,none⟩) 16 cp) 16 ((za7 rs).map (Value.int .i64))/\Only (ShW b v1 v2 (.slice (some ⟨g,0,none⟩) bks.length cap)) w wr) (fun k _=>16 - (intOf k).toNat)
  case atStart=>exact ⟨size,Nat.le_refl _,hs,rfl,by rw [Nat.sub_self,List.take_zero];exact H0.out.1,H0.out.2.1,H0.out.2.2⟩
  case round =>
    obtain ⟨q,hq0,hq1,rfl,stq,ownq,hbq⟩:=hrel;by_cases hlt : q < 16
    · have hnx:=HNX.out (q - size) (by omega)
      rw [show size+(q - size)=q by omega] at hnx;have hst:=zo0 (s.cs,s.ps) (za7 rs) size (q - size) (by omega);rw [show size+(q - size)=q by omega,show q - size+1=q+1 - size by omega] at hst;have cQ:=(ownq.cellAt q (by omega)).trans (getD_some (za7 rs) q (by omega));have j0 : (0 : Int)<=(q : Int):=by omega
      have j1 : (q : Int) < 16:=by omega
      generalize (za7 rs).getD q 0=p at *;generalize dropAll (s.cs,s.ps) (((za7 rs).drop size).take (q - size))=D at *;obtain ⟨cs',ps'⟩:=D;simp only at hnx stq;by_cases hp : 0<=p
      · obtain ⟨kk,hkk⟩:=Int.eq_ofNat_of_zero_le hp
        obtain ⟨hc1,hc2,hc3⟩:=hnx.2 hp;rw [hkk,Int.toNat_natCast] at hc1 hc2 hc3;have hcl:=hnx.1.c;have hpl':=hnx.1.p;rw [zl7 hkk] at hst;subst hkk;have HST : Hid _:=hst;have cD : wr.drew.cell? ⟨gp,q,none⟩=some (.int .i64 kk):=cQ;have stD : ShSg G C T off base b wr.drew v1 v2 (.slice (some ⟨g,0,none⟩) bks.length cap) bks ⟨cs',ps',s.bs⟩:=stq.below ((Below.refl _ _).drew);have ownD : wr.drew.ownsRow w.heap.size 2 1 (.slice (some ⟨gp,0,none⟩) 16 cp) 16 ((za7 rs).map (Value.int .i64)):=ownq;have hbD : Only (ShW b v1 v2 (.slice (some ⟨g,0,none⟩) bks.length cap)) w wr.drew:=hbq.below ((Below.refl _ _).drew);clear hst hnx stq ownq
        go_wp2_with fail
        go_region_law (go_simp;go_at_call 145;refine (zo1 b off base kk v1 v2 cs' ps' _ stD.c0 stD.c1 stD.n1 stD.n2 stD.pool (by omega) (by omega) (by omega) ⟨hc2,hc3⟩).mono ?_;rintro e w6 ⟨rfl,own6,only6⟩;dsimp only)
        have st6:=stD.pooled own6 only6;have ow6:=zci ownD only6 hvlt;have hb6:=hbD.trans (only6.mono (fun i hi=>hi.elim (fun q=>.inr (.inl q)) (fun q=>.inr (.inr (.inl q)))));have HR : Hid _:=And.intro st6 (And.intro ow6 hb6);clear own6 only6 st6 ow6 hb6 stD ownD hbD cQ cD
        go_wp2_with fail
        go_roundw
        case rel=>exact ⟨q+1,by omega,by omega,by go_num,by rw [HST.out];exact HR.out⟩
        case measure=>simp [intOf];omega
      · rw [zpc hp] at hst
        have HST : Hid _:=hst;have HR : Hid _:=And.intro stq (And.intro ownq hbq);clear hst hnx stq ownq hbq
        go_wp2_with fail
        go_roundw
        case rel=>exact ⟨q+1,by omega,by omega,by go_num,by rw [HST.out];exact HR.out⟩
        case measure=>simp [intOf];omega
    · have hdn:=HDN.out (q - size) (by omega)
      rw [hdn] at stq;have hx:=HX.out;obtain ⟨⟨-,-,a2,-,-⟩,-⟩:=zaz stq.books.row i hi;have rm : ReadsR 3 zak wr.heap.size wr bks[i].m bks[i].rs:=ReadsR.of_own zat (stq.books.maps _ (List.getElem_mem hi));rw [hx] at a2 rm;simp only at a2 rm;clear hx hdn ownq
      go_wp2_with fail
      refine (zov _ rs size _ (by omega) HMP.out rm).mono ?_;rintro e w7 ⟨v7,rfl,own7,hn7,b7⟩;have st7:=stq.below b7;have hw : base<=wr.heap.size:=Nat.le_trans hbase hbq.size;have hb7:=hbq.below b7;obtain ⟨⟨-,-,c2,-,-⟩,-,-,f2,-,-⟩:=zaz st7.books.row i hi;rw [HX.out] at c2;simp only at c2;obtain ⟨o7,c7,hv7⟩:=za4 own7;subst hv7;have HPT : Hid _:=st7.put i 2 hi (by decide) ⟨nm,sz,.slice o7 (mapOf (cutAt (za7 rs) size)).length c7,mapOf (cutAt (za7 rs) size),fx,ep⟩ (.slice o7 (mapOf (cutAt (za7 rs) size)).length c7) (by rw [HX.out];rfl) (zah own7 hw);clear own7 hn7 b7 st7 stq rm a2 hbq
      go_wp2_with fail
      refine bodyPost_end (results_none rfl _ _ _) rfl ⟨bks.set i ⟨nm,sz,.slice o7 (mapOf (cutAt (za7 rs) size)).length c7,mapOf (cutAt (za7 rs) size),fx,ep⟩,rfl,?_,?_⟩
      · exact List.length_set
      · rw [HCB.out]
        exact ⟨HPT.out.1,hb7.setCell ⟨g,i * 5+2,none⟩ (.inr (.inr (.inr rfl))) _⟩
def DoPostG (G : Nat->Prop) (C : Array Value) (T : TypeId) (off base b : Nat) (v1 v2 : Value) (s : Sf) (o : Oq) (w : World) (e : Ending) (w' : World) : Prop :=
  ∃ (vb' : Value) (bks' : List Bk),e = .returned (.agg #[.int .i64 (doOp s o).2.1,.int .i64 (doOp s o).2.2])/\ShSg G C T off base b w' v1 v2 vb' bks' (doOp s o).1/\Fr G base w w'
theorem DoPostG.drew {G : Nat->Prop} {C : Array Value} {T : TypeId} {off base b : Nat} {v1 v2 : Value} {s : Sf} {o : Oq} {w w' : World} {e : Ending} (h : DoPostG G C T off base b v1 v2 s o w e w') : DoPostG G C T off base b v1 v2 s o w e w'.drew:=by
  obtain ⟨vb,bks,h1,h2,h3⟩:=h;exact ⟨vb,bks,h1,h2.below ((Below.refl _ _).drew),h3.drew⟩
theorem zcb {G : Nat->Prop} {C : Array Value} {T : TypeId} {off base b n : Nat} {w w' : World} {v1 v2 vb x0 x1 : Value} {bks : List Bk} {s s' : Sf} {o : Oq} {c v : Int} (hd : doOp s o=(s',(c,v))) (hbase : base<=n) (hG : ¬ G n) (k1 : w'.heap[n]? = some (.cells #[x0,x1] 43 (0,0))) (st : ShSg G C T off base b w' v1 v2 vb bks s') (d : Fr G base w w') :
    ((w'.setCell ⟨n,0,none⟩ (.int .i64 c)).setCell ⟨n,1,none⟩ (.int .i64 v)).heap[n]? = some (.cells #[.int .i64 c,.int .i64 v] 43 (0,0)) /\
    DoPostG G C T off base b v1 v2 s o w (.returned (.agg #[.int .i64 c,.int .i64 v])) ((w'.setCell ⟨n,0,none⟩ (.int .i64 c)).setCell ⟨n,1,none⟩ (.int .i64 v)):=by
  have k2:=zab k1 0 (.int .i64 c);have k3:=zab k2 1 (.int .i64 v);have s2:=(st.beyond (i:=0) k1 st.hT.rp (by decide) (by decide) (by decide) (.int .i64 c)).beyond (i:=1) k2 st.hT.rp (by decide) (by decide) (by decide) (.int .i64 v);exact ⟨k3,vb,bks,by rw [hd],by rw [hd];exact s2,(d.set ⟨n,0,none⟩ hbase hG _).set ⟨n,1,none⟩ hbase hG _⟩
theorem ztc (G : Nat->Prop) (C : Array Value) (T : TypeId) (off base b : Nat) (v1 v2 vb : Value) (bks : List Bk) (s : Sf) (k : Int) (nm ot : ByteArray) (at_ va ep : Int) (w : World) (hn : nm.size<=maxLen) (ho : ot.size<=maxLen) (inv : ShInv s) (st : ShSg G C T off base b w v1 v2 vb bks s) (hok : opOk ⟨k,nm,ot,at_,va,ep⟩=false) :
    Calls Tryz.prog 86 #[.pointer (some ⟨b,off,none⟩),.agg #[.int .i64 k,.string nm,.string ot,.int .i64 at_,.int .i64 va,.int .i64 ep]] w (DoPostG G C T off base b v1 v2 s ⟨k,nm,ot,at_,va,ep⟩ w):=by
  obtain ⟨ob,cap,hvf⟩:=za4 st.books.row;subst hvf;have hbase : base<=w.heap.size:=st.hbase;have HGG : Hid (∀ k,w.heap.size<=k->¬ G k):=fun k hk q=>by have:=st.gl k q;omega
  have HTY : Hid (HoldsSh T):=st.hT;have hfew : bks.length<=6:=by rw [st.len];exact inv.few
  obtain ⟨W0,hW0,k0,k1,d0,z0⟩:=zc7 w #[.int .i64 k,.string nm,.string ot,.int .i64 at_,.int .i64 va,.int .i64 ep] #[.int .i64 0,.int .i64 0] 37 43;have HW0 : Hid (W0 = _):=hW0;have st0:=st.below d0;clear hW0 z0
  go_enter Tryz.func86,Tryz.ntmps86
  go_wp2_with fail
  rw [<- HW0.out];clear HW0;refine (zbl k nm ot at_ va ep _ hn ho).mono ?_;rintro e w1 ⟨rfl,b1⟩;rw [hok];replace k0:=kb0 b1 k0;replace k1:=kb0 b1 k1;replace st0:=st0.below b1;replace d0:=za1 d0 b1;clear b1;have HS : Hid _:=zcb (show doOp s ⟨k,nm,ot,at_,va,ep⟩=(s,(1,0)) by rw [doOp,if_pos hok]) (Nat.le_succ_of_le hbase) (HGG.out _ (by omega)) k1 st0 (zdu hbase d0);obtain ⟨q0,q1⟩:=cq2 k1;obtain ⟨f0,f1⟩:=oq2 k1;clear k0 k1 st0 d0 st
  go_wp2_with fail
  exact bodyPost_ret (v:=.agg #[.int .i64 1,.int .i64 0]) (by simp [results,Tryz.results86,go_sem,za0 HS.out.1]) rfl HS.out.2
theorem zrb (G : Nat->Prop) (C : Array Value) (T : TypeId) (off base b : Nat) (v1 v2 vb : Value) (bks : List Bk) (s : Sf) (k : Int) (nm ot : ByteArray) (at_ va ep : Int) (w : World) (hn : nm.size<=maxLen) (ho : ot.size<=maxLen) (inv : ShInv s) (st : ShSg G C T off base b w v1 v2 vb bks s) (hok : opOk ⟨k,nm,ot,at_,va,ep⟩=true) (href : za5 s.bs ⟨k,nm,ot,at_,va,ep⟩ ≠ 0) :
    Calls Tryz.prog 86 #[.pointer (some ⟨b,off,none⟩),.agg #[.int .i64 k,.string nm,.string ot,.int .i64 at_,.int .i64 va,.int .i64 ep]] w (DoPostG G C T off base b v1 v2 s ⟨k,nm,ot,at_,va,ep⟩ w):=by
  have hk9:=(zkl _ hok).1;simp only at hk9;have HD : Hid (doOp s ⟨k,nm,ot,at_,va,ep⟩=(s,(za5 s.bs ⟨k,nm,ot,at_,va,ep⟩,0))):=by rw [Hid,doOp,if_neg (by rw [hok];decide),if_pos href]
  obtain ⟨rc,hrc⟩ : ∃ rc,za5 s.bs ⟨k,nm,ot,at_,va,ep⟩=rc:=⟨_,rfl⟩
  rw [hrc] at HD href;obtain ⟨ob,cap,hvf⟩:=za4 st.books.row;subst hvf;have hbase : base<=w.heap.size:=st.hbase;have HGG : Hid (∀ k,w.heap.size<=k->¬ G k):=fun k hk q=>by have:=st.gl k q;omega
  have HTY : Hid (HoldsSh T):=st.hT;have hfew : bks.length<=6:=by rw [st.len];exact inv.few
  obtain ⟨W0,hW0,k0,k1,d0,z0⟩:=zc7 w #[.int .i64 k,.string nm,.string ot,.int .i64 at_,.int .i64 va,.int .i64 ep] #[.int .i64 0,.int .i64 0] 37 43;have HW0 : Hid (W0 = _):=hW0;have st0:=st.below d0;clear hW0 z0
  go_enter Tryz.func86,Tryz.ntmps86
  go_wp2_with fail
  rw [<- HW0.out];clear HW0;refine (zbl k nm ot at_ va ep _ hn ho).mono ?_;rintro e w1 ⟨rfl,b1⟩;rw [hok];replace k0:=kb0 b1 k0;replace k1:=kb0 b1 k1;replace st0:=st0.below b1;replace d0:=za1 d0 b1;clear b1;have hne:=BelowOf.any w1;have rb : ReadsR 5 bookC w1.heap.size w1 (.slice ob bks.length cap) bks:=ReadsR.of_own zae st0.books.row;have hfm:=st0.forms
  have H1 : ∀ q : BelowOf w1,Calls Tryz.prog 139 #[.slice ob bks.length cap,.agg #[.int .i64 k,.string nm,.string ot,.int .i64 at_,.int .i64 va,.int .i64 ep]] q.w' fun e w'=>e = .returned (.int .i64 rc)/\Below q.w'.heap.size q.w' w':=fun q=>by
    have h:=zbm (.slice ob bks.length cap) bks k nm ot at_ va ep q.w' hk9 (rb.of (Nat.le_refl _) q) hfm;rw [st.eq,hrc] at h;exact h
  have c0:=BelowOf.cell (v:=.int .i64 k) (za0 k0 0) (za2 k0);have c1:=BelowOf.cell (v:=.string nm) (za0 k0 1) (za2 k0);have c2:=BelowOf.cell (v:=.string ot) (za0 k0 2) (za2 k0);have c3:=BelowOf.cell (v:=.int .i64 at_) (za0 k0 3) (za2 k0);have c4:=BelowOf.cell (v:=.int .i64 va) (za0 k0 4) (za2 k0);have c5:=BelowOf.cell (v:=.int .i64 ep) (za0 k0 5) (za2 k0);have cB:=BelowOf.cell (v:=.slice ob bks.length cap) (st0.c2) (st0.lt)
  go_wp2_with fail
  refine zad (by kernel_rfl) (by kernel_rfl) ?_
  repeat (go_big_quiet_step ((first | (go_at_call 139;with_reducible exact zb1 (H1 _)) | rfl)))
  refine wpQuiet_nil ?_;intro w2 hw2;obtain ⟨⟨wx,cx⟩,hwx⟩:=hw2;have b2 : Below w1.heap.size w1 w2:=by rw [hwx];exact cx
  clear hwx cx wx hne c0 c1 c2 c3 c4 c5 cB H1 rb;replace k0:=kb0 b2 k0;replace k1:=kb0 b2 k1;replace st0:=st0.below b2;replace d0:=za1 d0 b2;clear b2;have HS : Hid _:=zcb HD.out (Nat.le_succ_of_le hbase) (HGG.out _ (by omega)) k1 st0 (zdu hbase d0);have hcb : (rc != 0)=true:=by rw [bne_iff_ne];exact href
  obtain ⟨q0,q1⟩:=cq2 k1;obtain ⟨f0,f1⟩:=oq2 k1;clear k0 k1 st0 d0 st HD hrc
  go_wp2_with fail
  exact bodyPost_ret (v:=.agg #[.int .i64 rc,.int .i64 0]) (by simp [results,Tryz.results86,go_sem,za0 HS.out.1]) rfl HS.out.2
theorem zgu {G : Nat->Prop} {C : Array Value} {T : TypeId} {off base b : Nat} {w : World} {v1 v2 vb : Value} {bks : List Bk} {s : Sf} {o : Oq} (st : ShSg G C T off base b w v1 v2 vb bks s) (href : za5 s.bs o=0) (hk : o.k ≠ 1) : ∃ (i : Nat) (hi : i < bks.length) (hib : i < s.bs.length),findP s.bs o.nm=i/\zag bks o.nm=i/\s.bs[i]=bks[i].pb/\zau s.bs (findP s.bs o.nm)=s.bs[i]:=by
  obtain ⟨i,hib,hf,-⟩:=zhd s.bs o.nm (by have:=(zbk href).1 hk;omega);have hi : i < bks.length:=by rw [st.len];exact hib
  refine ⟨i,hi,hib,hf,?_,?_,?_⟩
  · rw [<- findP_map,st.eq];exact hf
  · have h:=st.eq
    simp [<- h]
  · rw [hf,zbz s.bs i hib]
theorem zpd {G : Nat->Prop} {C : Array Value} {T : TypeId} {off base b q : Nat} {w wx wd : World} {v1 v2 vb : Value} {bks : List Bk} {s : Sf} {x : Bk} {od : Option Addr} {cd : Nat} (hq : q<=bks.length) (hbase : base<=w.heap.size) (d2 : Below w.heap.size w wx) (st2 : ShSg G C T off base b wx v1 v2 vb bks s) (hm2 : wx.ownsRow base 172 3 x.m x.rs.length (x.rs.flatMap zak)) (bd : Below wx.heap.size wx wd)
    (ownd : wd.ownsRow wx.heap.size 117 5 (.slice od (0+q+1+(bks.length - q)) cd) (0+q+1+(bks.length - q)) ([] ++ (bks.take q).flatMap bookC ++ bookC x ++ (bks.drop q).flatMap bookC)) (hins : insertP s.bs x.pb=(bks.take q ++ [x] ++ bks.drop q).map Bk.pb) :
    ShSg G C T off base b (wd.setCell ⟨b,off+2,none⟩ (.slice od (q+1+(bks.length - q)) cd)) v1 v2 (.slice od (q+1+(bks.length - q)) cd) (bks.take q ++ [x] ++ bks.drop q) ⟨s.cs,s.ps,insertP s.bs x.pb⟩/\Only (fun i=>i=b) w (wd.setCell ⟨b,off+2,none⟩ (.slice od (q+1+(bks.length - q)) cd)):=by
  rw [Nat.zero_add] at ownd
  have hl : (bks.take q ++ [x] ++ bks.drop q).length=q+1+(bks.length - q):=by
    rw [List.length_append,List.length_append,List.length_take,List.length_drop,Nat.min_eq_left hq]
    rfl
  have hf : (bks.take q ++ [x] ++ bks.drop q).flatMap bookC = [] ++ (bks.take q).flatMap bookC ++ bookC x ++ (bks.drop q).flatMap bookC:=by
    rw [List.flatMap_append,List.flatMap_append,List.nil_append];simp
  have hbx : base<=wx.heap.size:=Nat.le_trans hbase d2.size
  have nb : OwnB base wd (.slice od (q+1+(bks.length - q)) cd) (bks.take q ++ [x] ++ bks.drop q):=by
    refine ⟨by rw [hl,hf];exact zah ownd hbx,fun y hy=>?_⟩;rcases List.mem_append.1 hy with hy | hy
    · rcases List.mem_append.1 hy with hy | hy
      · exact za9 (st2.books.maps y (List.mem_of_mem_take hy)) bd
      · simp only [List.mem_singleton] at hy
        subst hy;exact za9 hm2 bd
    · exact za9 (st2.books.maps y (List.mem_of_mem_drop hy)) bd
  obtain ⟨st4,b4⟩:=(st2.below bd).rebook nb (fun g hg hG=>by have h1:=(ownd.lt g hg).1;have h2:=st2.gl g hG;omega);rw [hins];exact ⟨st4,((Only.refl (fun i=>i=b) w).below (za1 d2 bd)).setCell ⟨b,off+2,none⟩ (show b=b from rfl) _⟩
theorem zan {P : Program} {w : World} {ops : Array Oper} {o : Oper} {a : Act} {K : Act->World->Prop} {Q : Exit->Act->World->Prop} {E : Prop} (hgd : o.guard=none) (s x : Operand) (t : TypeId)
    (ho : o.op = .call { callee:=.builtin .append,args:=#[s,x],argTypes:=#[t,t] })
    (base : Nat) (e : TypeId) (i : TypeInfo) (z : Value) (size bytes : Nat) (ht : P.underlying t=some (.slice e)) (hi : P.info? e=some i) (hz : i.zero=some z)
    (hsize : i.size=size) (hby : i.bytes=bytes) (hzs : z.cells.size=size) (hsz : 0 < size)
    (v : Value) (n : Nat) (xs : List Value) (hs : a.eval s=v) (hown : w.ownsRow base e size v n xs)
    (ad : Option Addr) (m c : Nat) (news : List Value) (hx : a.eval x = .slice ad m c) (hl : news.length=m * size) (hnews : ∀ j u,news[j]? = some u->∃ g off,ad=some ⟨g,off,none⟩/\w.cell? ⟨g,off+j,none⟩=some u) (h1 : ∀ u ∈ news,u.oneCell'=true)
    (h63 : n+m<=maxLen) (hbytes : (n+m) * bytes<=140737488355328) (hbase : base<=w.heap.size)
    (h : ∀ v' w',w'.ownsRow base e size v' (n+m) (xs ++ news)->w.grownBy w' v.ownBlock->(v' = .slice none 0 0 ↔ v = .slice none 0 0/\m=0)->K (a.put o.dst v') w') :
    if Region.wanted o (yielded ops a.tmps)=true then Oper.wp P o a w K Q else E:=by
  have hw : Region.wanted o (yielded ops a.tmps)=true:=by simp [Region.wanted,hgd]
  rw [if_pos hw];exact zgd s x t ho base e i z size bytes ht hi hz hsize hby hzs hsz v n xs hs hown ad m c news hx hl hnews h1 h63 hbytes hbase h
theorem zo2 (w : World) (a : Array Value) (T : TypeId) : (w.alloc (.cells a T)).heap[w.heap.size]? = some (.cells a T (0,0)):=by
  obtain ⟨W,hW,h,-⟩:=zb4 w a T;rw [hW] at h;exact h
theorem zgv {X : World} {n : Nat} {x0 x1 x2 x3 x4 : Value} {U : TypeId} (h : X.heap[n]? = some (.cells #[x0,x1,x2,x3,x4] U (0,0))) : ∀ j u,([x0,x1,x2,x3,x4] : List Value)[j]? = some u->∃ g off,some (⟨n,0,none⟩ : Addr)=some ⟨g,off,none⟩/\X.cell? ⟨g,off+j,none⟩=some u:=fun j u hj=>by
  refine ⟨n,0,rfl,?_⟩;rw [Nat.zero_add];exact (za0 h j).trans ((show (#[x0,x1,x2,x3,x4] : Array Value)[j]? = ([x0,x1,x2,x3,x4] : List Value)[j]? by simp).trans hj)
end Go.Proofs.YtfkkapdofjhgpaaGreatDoor
