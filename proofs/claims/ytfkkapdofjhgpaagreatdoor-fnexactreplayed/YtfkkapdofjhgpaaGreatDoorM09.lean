import Derived.Deep.RegionLaw
import Derived.Laws.OwnMore
import Derived.OwnWalk
import Derived.Deep.DeepCutAuto
import Derived.Test.YtfkkapdofjhgpaaGreatDoorM01
import Derived.Test.YtfkkapdofjhgpaaGreatDoorM02
import Derived.Test.YtfkkapdofjhgpaaGreatDoorM04
import Derived.Test.YtfkkapdofjhgpaaGreatDoorM05
import Derived.Test.YtfkkapdofjhgpaaGreatDoorM06
import Derived.Test.YtfkkapdofjhgpaaGreatDoorM07
import Derived.Test.YtfkkapdofjhgpaaGreatDoorM08
set_option maxHeartbeats 12800000
namespace Go.Proofs.YtfkkapdofjhgpaaGreatDoor
open Go.RowKit
set_option linter.unusedVariables false
set_option maxRecDepth 100000
theorem zp9 (cs : List Int) (k : Nat) (x : Int) : (cs.map (Value.int .i64)).set k (.int .i64 x)=(cs.set k x).map (Value.int .i64):=by rw [List.map_set]
theorem OwnP.set1 {base : Nat} {w : World} {g1 c1 : Nat} {v2 : Value} {cs ps : List Int} (h : OwnP base w (.slice (some ⟨g1,0,none⟩) cs.length c1) v2 cs ps) (k : Nat) (x : Int) :
    OwnP base (w.setCell ⟨g1,k,none⟩ (.int .i64 x)) (.slice (some ⟨g1,0,none⟩) cs.length c1) v2 (cs.set k x) ps:=by
  refine ⟨?_,zbd (S:=fun b=>b=g1) h.p ((Only.refl (fun b=>b=g1) _).setCell ⟨g1,k,none⟩ rfl _) (fun g hg e=>h.apart g1 rfl (by rw [hg,e])),h.apart⟩;have:=(h.c.stored k (.int .i64 x)).1;rw [zp9] at this
  rwa [List.length_set]
theorem OwnP.set2 {base : Nat} {w : World} {g2 c2 : Nat} {v1 : Value} {cs ps : List Int} (h : OwnP base w v1 (.slice (some ⟨g2,0,none⟩) ps.length c2) cs ps) (k : Nat) (x : Int) :
    OwnP base (w.setCell ⟨g2,k,none⟩ (.int .i64 x)) v1 (.slice (some ⟨g2,0,none⟩) ps.length c2) cs (ps.set k x):=by
  refine ⟨zbd (S:=fun b=>b=g2) h.c ((Only.refl (fun b=>b=g2) _).setCell ⟨g2,k,none⟩ rfl _) (fun g hg e=>h.apart g hg (by rw [e];rfl)),?_,h.apart⟩;have:=(h.p.stored k (.int .i64 x)).1;rw [zp9] at this
  rwa [List.length_set]
theorem zfs {w : World} {base : Nat} {v1 v2 : Value} {cs ps : List Int} (h : OwnP base w v1 v2 cs ps) (hc : 1<=cs.length) (hp : ps.length=cs.length) :
    ∃ g1 c1 g2 c2,v1 = .slice (some ⟨g1,0,none⟩) cs.length c1/\v2 = .slice (some ⟨g2,0,none⟩) ps.length c2/\g1 ≠ g2:=by
  rcases h.c.2 with ⟨_,hn⟩ | ⟨g1,c1,cur,rfl,_⟩
  · omega
  rcases h.p.2 with ⟨_,hn⟩ | ⟨g2,c2,cur2,rfl,_⟩
  · omega
  exact ⟨g1,c1,g2,c2,rfl,rfl,fun e=>h.apart g1 rfl (by rw [e];rfl)⟩
theorem zgr {P : Program} {w : World} {ops : Array Oper} {o : Oper} {a : Act} {K : Act->World->Prop} {Q : Exit->Act->World->Prop} {E : Prop} (hgd : o.guard=none) (s x : Operand) (t : TypeId)
    (ho : o.op = .call { callee:=.builtin .append,args:=#[s,x],argTypes:=#[t,t] })
    (base : Nat) (e : TypeId) (i : TypeInfo) (z : Value) (size bytes : Nat) (ht : P.underlying t=some (.slice e)) (hi : P.info? e=some i) (hz : i.zero=some z)
    (hsize : i.size=size) (hby : i.bytes=bytes) (hzs : z.cells.size=size) (hsz : 0 < size)
    (v : Value) (n : Nat) (xs : List Value) (hs : a.eval s=v) (hown : w.ownsRow base e size v n xs)
    (ad : Addr) (m c : Nat) (news : List Value) (hx : a.eval x = .slice (some ad) m c) (hl : news.length=m * size) (hnews : ∀ j u,news[j]? = some u->w.cell? (ad.add j)=some u) (h1 : ∀ u ∈ news,u.oneCell'=true)
    (h63 : n+m<=maxLen) (hbytes : (n+m) * bytes<=140737488355328) (hbase : base<=w.heap.size)
    (h : ∀ v' w',w'.ownsRow base e size v' (n+m) (xs ++ news)->w.grownBy w' v.ownBlock->(v' = .slice none 0 0 ↔ v = .slice none 0 0/\m=0)->K (a.put o.dst v') w') :
    if Region.wanted o (yielded ops a.tmps)=true then Oper.wp P o a w K Q else E:=by
  have hw : Region.wanted o (yielded ops a.tmps)=true:=by simp [Region.wanted,hgd]
  rw [if_pos hw];exact wp_append_own w s x t ho base e i z size bytes ht hi hz hsize hby hzs hsz v n xs hs hown ad m c news hx hl hnews h1 h63 hbytes hbase h
structure MapSt (c : Nat) (x : Option Addr) (len cap : Nat) (w W : World) (g cp : Nat) (rs : List (Int × Int × Int)) : Prop where
  own : W.ownsRow w.heap.size 172 3 (.slice (some ⟨g,0,none⟩) rs.length cp) rs.length (rs.flatMap zak)
  few : rs.length<=17
  fit : zb9 rs
  kc : Cur W c x len cap
  u : Upto c w W
  lt : c < w.heap.size
theorem MapSt.step {c g cp : Nat} {x : Option Addr} {len cap : Nat} {w W W' : World} {rs : List (Int × Int × Int)} (h : MapSt c x len cap w W g cp rs) (u : Upto c W W') (kc : Cur W' c x len cap) : MapSt c x len cap w W' g cp rs :=
  ⟨zbc h.own u h.lt,h.few,h.fit,kc,h.u.trans u,h.lt⟩
theorem MapSt.alloc {c g cp : Nat} {x : Option Addr} {len cap : Nat} {w W : World} {rs : List (Int × Int × Int)} (h : MapSt c x len cap w W g cp rs) (o : Obj) : MapSt c x len cap w (W.alloc o) g cp rs :=
  h.step ((Upto.refl c W).alloc o) (h.kc.alloc o)
theorem MapSt.lo {c g cp : Nat} {x : Option Addr} {len cap : Nat} {w W : World} {rs : List (Int × Int × Int)} (h : MapSt c x len cap w W g cp rs) : w.heap.size<=g/\g < W.heap.size:=h.own.lt g rfl
theorem MapSt.more {c g cp : Nat} {x : Option Addr} {len cap : Nat} {w W W' : World} {rs : List (Int × Int × Int)} {r : Int × Int × Int} {v : Value} (h : MapSt c x len cap w W g cp rs) (hl : rs.length<=16) (hf : I64 r.1/\I64 r.2.1/\I64 r.2.2) (hown : W'.ownsRow w.heap.size 172 3 v (rs.length+1) (rs.flatMap zak ++ zak r)) (hg : W.grownBy W' (some g)) (hn : v ≠ .slice none 0 0) :
    ∃ g' cp',v = .slice (some ⟨g',0,none⟩) (rs ++ [r]).length cp'/\MapSt c x len cap w W' g' cp' (rs ++ [r]):=by
  have own3 : W'.ownsRow w.heap.size 172 3 v (rs ++ [r]).length ((rs ++ [r]).flatMap zak):=by simpa using hown
  have hlo:=h.lo;have hlt:=h.lt;have kl:=h.kc.lt
  rcases own3.2 with ⟨e,_⟩ | ⟨g',cp',cur,e,h2⟩
  · exact absurd e hn
  · subst e
    refine ⟨g',cp',rfl,own3,by simp;omega,fun q hq=>?_,h.kc.same ((Below.refl _ _).grown hg kl (fun q hq=>?_)),h.u.grown hg (fun q hq=>?_),h.lt⟩
    · rcases List.mem_append.1 hq with hq | hq
      · exact h.fit q hq
      · simp at hq
        subst hq;exact hf
    · simp at hq;omega
    · simp at hq;left;omega
def PagesIn (l : List Int) : Prop:=l.length=16/\∀ j,j < 16->-1<=l.getD j 0/\l.getD j 0<=23
theorem PagesIn.set {l : List Int} (h : PagesIn l) (k : Nat) (hk : k < 16) (p : Int) (hp : -1<=p/\p<=23) : PagesIn (l.set k p):=by
  refine ⟨by rw [List.length_set];exact h.1,fun j hj=>?_⟩;rw [zg4 _ _ _ _ (by rw [h.1];exact hk)];by_cases e : k=j
  · rw [if_pos e];exact hp
  · rw [if_neg e];exact h.2 j hj
theorem PagesIn.none : PagesIn none16:=⟨rfl,fun j hj=>by rw [zh8 j hj];omega⟩
structure BookSt (c : Nat) (x : Option Addr) (len cap : Nat) (w W : World) (b : Bk) : Prop where
  own : W.ownsRow w.heap.size 172 3 b.m b.rs.length (b.rs.flatMap zak)
  kc : Cur W c x len cap
  u : Upto c w W
  lt : c < w.heap.size
  few : b.rs.length<=17
  fit : zb9 b.rs
  nm : b.nm.size<=5
  sz : -1<=b.sz/\b.sz<=17
  ep : -1<=b.ep/\b.ep<=1001
theorem BookSt.step {c : Nat} {x : Option Addr} {len cap : Nat} {w W W' : World} {b : Bk} (h : BookSt c x len cap w W b) (u : Upto c W W') (kc : Cur W' c x len cap) : BookSt c x len cap w W' b :=
  ⟨zbc h.own u h.lt,kc,h.u.trans u,h.lt,h.few,h.fit,h.nm,h.sz,h.ep⟩
theorem BookSt.below {c : Nat} {x : Option Addr} {len cap : Nat} {w W W' : World} {b : Bk} (h : BookSt c x len cap w W b) (k : Below W.heap.size W W') : BookSt c x len cap w W' b :=
  h.step (Upto.ofBelow k) (h.kc.below k)
theorem BookSt.form {c : Nat} {x : Option Addr} {len cap : Nat} {w W : World} {b : Bk} (h : BookSt c x len cap w W b) : ∃ o cp,b.m = .slice o b.rs.length cp:=za4 h.own
theorem BookSt.reads {c : Nat} {x : Option Addr} {len cap : Nat} {w W : World} {b : Bk} (h : BookSt c x len cap w W b) : ReadsR 3 zak W.heap.size W b.m b.rs:=ReadsR.of_own zat h.own
theorem BookSt.put {c : Nat} {x : Option Addr} {len cap : Nat} {w W : World} {b : Bk} {g i : Nat} {cs : Array Value} (h : BookSt c x len cap w W b) (k : W.heap[g]? = some (.cells cs 117 (0,0))) (hg : w.heap.size<=g) (v : Value) : BookSt c x len cap w (W.setCell ⟨g,i,none⟩ v) b:=by
  have hne:=zaa h.own k (by decide);have hlt:=h.lt;have hb : ∀ q,q < W.heap.size->q ≠ g->(W.setCell ⟨g,i,none⟩ v).heap[q]? = W.heap[q]?:=fun q hq hqg=>((Upto.refl g W).setCell ⟨g,i,none⟩ (.inl rfl) v).block q hq hqg
  refine ⟨zai h.own (fun q hq hv=>hb q hq (fun e=>hne (by rw [<- e];exact hv))),h.kc.same (((Upto.refl g W).setCell ⟨g,i,none⟩ (.inl rfl) _).toBelow h.kc.lt (by omega)),h.u.setCell ⟨g,i,none⟩ (.inr hg) _,h.lt,h.few,h.fit,h.nm,h.sz,h.ep⟩
structure BkSt (c : Nat) (x : Option Addr) (len cap nB : Nat) (w W : World) (b : Bk) : Prop where
  st : BookSt c x len cap w W b
  kB : W.heap[nB]? = some (.cells #[.string b.nm,.int .i64 b.sz,b.m,.bool b.fx,.int .i64 b.ep] 117 (0,0))
  kR : W.heap[w.heap.size]? = some (.cells #[.string ⟨#[]⟩,.int .i64 0,.slice none 0 0,.bool false,.int .i64 0] 117 (0,0))
  nb : w.heap.size < nB
theorem BkSt.step {c nB : Nat} {x : Option Addr} {len cap : Nat} {w W W' : World} {b : Bk} (h : BkSt c x len cap nB w W b) (u : Upto c W W') (kc : Cur W' c x len cap) : BkSt c x len cap nB w W' b:=by
  have hlt:=h.st.lt;have hnb:=h.nb;exact ⟨h.st.step u kc,(u.block _ (za2 h.kB) (by omega)).trans h.kB,(u.block _ (za2 h.kR) (by omega)).trans h.kR,h.nb⟩
theorem BkSt.below {c nB : Nat} {x : Option Addr} {len cap : Nat} {w W W' : World} {b : Bk} (h : BkSt c x len cap nB w W b) (k : Below W.heap.size W W') : BkSt c x len cap nB w W' b :=
  h.step (Upto.ofBelow k) (h.st.kc.below k)
theorem BkSt.alloc {c nB : Nat} {x : Option Addr} {len cap : Nat} {w W : World} {b : Bk} (h : BkSt c x len cap nB w W b) (o : Obj) : BkSt c x len cap nB w (W.alloc o) b :=
  h.below (za3 (Below.refl _ _))
theorem BkSt.other {c nB : Nat} {x : Option Addr} {len cap : Nat} {w W : World} {b : Bk} (h : BkSt c x len cap nB w W b) (i : Nat) (v : Value) : (W.setCell ⟨nB,i,none⟩ v).heap[w.heap.size]? = some (.cells #[.string ⟨#[]⟩,.int .i64 0,.slice none 0 0,.bool false,.int .i64 0] 117 (0,0)) :=
  (((Upto.refl nB W).setCell ⟨nB,i,none⟩ (.inl rfl) v).block _ (za2 h.kR) (Nat.ne_of_lt h.nb)).trans h.kR
theorem BkSt.name {c nB : Nat} {x : Option Addr} {len cap : Nat} {w W : World} {b : Bk} (h : BkSt c x len cap nB w W b) (s : ByteArray) (hs : s.size<=5) : BkSt c x len cap nB w (W.setCell ⟨nB,0,none⟩ (.string s)) ⟨s,b.sz,b.m,b.rs,b.fx,b.ep⟩:=by
  have p:=h.st.put (i:=0) h.kB (Nat.le_of_lt h.nb) (.string s);exact ⟨⟨p.own,p.kc,p.u,p.lt,p.few,p.fit,hs,p.sz,p.ep⟩,zab h.kB 0 _,h.other 0 _,h.nb⟩
theorem BkSt.size {c nB : Nat} {x : Option Addr} {len cap : Nat} {w W : World} {b : Bk} (h : BkSt c x len cap nB w W b) (z : Int) (hz : -1<=z/\z<=17) : BkSt c x len cap nB w (W.setCell ⟨nB,1,none⟩ (.int .i64 z)) ⟨b.nm,z,b.m,b.rs,b.fx,b.ep⟩:=by
  have p:=h.st.put (i:=1) h.kB (Nat.le_of_lt h.nb) (.int .i64 z);exact ⟨⟨p.own,p.kc,p.u,p.lt,p.few,p.fit,p.nm,hz,p.ep⟩,zab h.kB 1 _,h.other 1 _,h.nb⟩
theorem BkSt.map {c nB base : Nat} {x : Option Addr} {len cap : Nat} {w W : World} {b : Bk} (h : BkSt c x len cap nB w W b) (m : Value) (rs : List (Int × Int × Int)) (hl : rs.length<=17) (hf : zb9 rs) (hb : w.heap.size<=base) (own : W.ownsRow base 172 3 m rs.length (rs.flatMap zak)) : BkSt c x len cap nB w (W.setCell ⟨nB,2,none⟩ m) ⟨b.nm,b.sz,m,rs,b.fx,b.ep⟩:=by
  have p : BookSt c x len cap w (W.setCell ⟨nB,2,none⟩ m) ⟨b.nm,b.sz,m,rs,b.fx,b.ep⟩:=BookSt.put (b:=⟨b.nm,b.sz,m,rs,b.fx,b.ep⟩) (i:=2) ⟨zah own hb,h.st.kc,h.st.u,h.st.lt,hl,hf,h.st.nm,h.st.sz,h.st.ep⟩ h.kB (Nat.le_of_lt h.nb) m;exact ⟨p,zab h.kB 2 _,h.other 2 _,h.nb⟩
theorem zvi (w : World) (b : Bk) (t : TypeId) : ∀ (j : Nat) (u : Value),(bookC b)[j]? = some u->(w.alloc (.cells #[.string b.nm,.int .i64 b.sz,b.m,.bool b.fx,.int .i64 b.ep] t)).cell? ((⟨w.heap.size,0,none⟩ : Addr).add j)=some u:=by
  intro j u hj;rw [zgj];have e:=World.cell?_alloc_mark w #[.string b.nm,.int .i64 b.sz,b.m,.bool b.fx,.int .i64 b.ep] t (0,0) j;exact e.trans ((show (#[Value.string b.nm,.int .i64 b.sz,b.m,.bool b.fx,.int .i64 b.ep] : Array Value)[j]? = (bookC b)[j]? by simp [bookC]).trans hj)
theorem zgs (b : Bk) (h : ∃ o k cp,b.m = .slice o k cp) : ∀ u ∈ bookC b,u.oneCell'=true:=fun u hu=>by
  obtain ⟨o,k,cp,h⟩:=h;simp [bookC,h] at hu;rcases hu with rfl | rfl | rfl | rfl | rfl <;> rfl
theorem zne {w w' : World} {base base' : Nat} {e e' : TypeId} {k k' : Nat} {v : Value} {n n' g cp : Nat} {xs ys : List Value} (h : w.ownsRow base e k v n xs) (r : w.ownsRow base' e' k' (.slice (some ⟨g,0,none⟩) n' cp) n' ys) (hne : e' ≠ e) (hg : w.grownBy w' (some g)) : w'.ownsRow base e k v n xs:=by
  have u : Upto g w w':=(Upto.refl g w).grown hg (fun q hq=>.inr (by cases hq;rfl))
  rcases r.2 with ⟨h0,_⟩ | ⟨g',cap',cur,h0,_,hh,_⟩
  · simp at h0
  · simp at h0
    obtain ⟨rfl,_⟩:=h0;have hv:=zaa h hh hne;exact zai h (fun q hq hqv=>u.block q hq (fun e=>hv (by rw [<- e];exact hqv)))
structure Drawn (w : World) (b : Bk) : Prop where
  reads : ReadsR 3 zak w.heap.size w b.m b.rs
  fit : zb9 b.rs
  nm : b.nm.size<=maxLen
theorem Drawn.below {w w' : World} {b : Bk} (h : Drawn w b) (k : Below w.heap.size w w') : Drawn w' b:=⟨(h.reads.below k).mono k.size,h.fit,h.nm⟩
theorem zd4 {α : Type} {k : Nat} {cs : α->List Value} (hk : ∀ x,(cs x).length=k) (hk0 : 0 < k) {B : Nat} {w : World} {o : Option Addr} {n cap : Nat} {xs : List α} (h : ReadsR k cs B w (.slice o n cap) xs) : ∀ j u,(xs.flatMap cs)[j]? = some u->∃ g off,o=some ⟨g,off,none⟩/\w.cell? ⟨g,off+j,none⟩=some u:=fun j u hj=>by
  obtain ⟨o',cap',e,-,hc,-⟩:=h;simp only [Value.slice.injEq] at e;obtain ⟨rfl,rfl,rfl⟩:=e;have hjl:=(List.getElem?_eq_some_iff.1 hj).1;rw [zbb hk] at hjl;have hi3 : j / k < xs.length:=Nat.div_lt_of_lt_mul (by rw [Nat.mul_comm];exact hjl);obtain ⟨g,off,e,hg,hx⟩:=hc (j / k) xs[j / k] (List.getElem?_eq_getElem hi3);refine ⟨g,off,e,?_⟩;have hm:=Nat.mod_lt j hk0;have hd : j / k * k+j % k=j:=by rw [Nat.mul_comm];exact Nat.div_add_mod j k
  have hf:=zfo hk xs (j / k) (j % k) xs[j / k] (List.getElem?_eq_getElem hi3) hm;rw [hd] at hf;have:=hx (j % k) u (by rw [<- hf];exact hj)
  rwa [show off+j / k * k+j % k=off+j by omega] at this
theorem zey (rs : List (Int × Int × Int)) : ∀ u ∈ rs.flatMap zak,u.oneCell'=true:=fun u hu=>by
  obtain ⟨x,_,hx⟩:=List.mem_flatMap.1 hu;simp [zak] at hx;rcases hx with rfl | rfl | rfl <;> rfl
theorem ze6 (bs : List Bk) (h : ∀ b ∈ bs,∃ o k cp,b.m = .slice o k cp) : ∀ u ∈ bs.flatMap bookC,u.oneCell'=true:=fun u hu=>by
  obtain ⟨x,hx1,hx⟩:=List.mem_flatMap.1 hu;exact zgs x (h x hx1) u hx
theorem ReadsR.drop {α : Type} {k : Nat} {cs : α->List Value} {B : Nat} {w : World} {g off n cap : Nat} {xs : List α} (h : ReadsR k cs B w (.slice (some ⟨g,off,none⟩) n cap) xs) (i : Nat) (hi : i<=n) : ReadsR k cs B w (.slice (some ⟨g,off+i * k,none⟩) (n - i) (cap - i)) (xs.drop i):=by
  obtain ⟨o',cap',e,hm,hc,hr⟩:=h;simp only [Value.slice.injEq] at e;obtain ⟨rfl,rfl,rfl⟩:=e;refine ⟨_,_,by rw [List.length_drop],by rw [List.length_drop];omega,fun j x hj=>?_,by rw [List.length_drop];omega⟩;rw [List.getElem?_drop] at hj;obtain ⟨g',off',e,hg,hx⟩:=hc (i+j) x hj;simp only [Option.some.injEq,Addr.mk.injEq,and_true] at e;obtain ⟨rfl,rfl⟩:=e;refine ⟨g,off+i * k,rfl,hg,fun q u hq=>?_⟩;have:=hx q u hq
  rwa [show off+(i+j) * k+q=off+i * k+j * k+q by rw [Nat.add_mul];omega] at this
theorem ReadsR.take {α : Type} {k : Nat} {cs : α->List Value} {B : Nat} {w : World} {o : Option Addr} {n cap : Nat} {xs : List α} (h : ReadsR k cs B w (.slice o n cap) xs) (i : Nat) (hi : i<=n) : ReadsR k cs B w (.slice o i cap) (xs.take i):=by
  obtain ⟨o',cap',e,hm,hc,hr⟩:=h;simp only [Value.slice.injEq] at e;obtain ⟨rfl,rfl,rfl⟩:=e;have hl : (xs.take i).length=i:=by rw [List.length_take];omega
  refine ⟨_,_,by rw [hl],by rw [hl];omega,fun j x hj=>?_,by rw [hl];omega⟩;rw [List.getElem?_take] at hj
  split at hj
  · exact hc j x hj
  · cases hj
theorem zem {w : World} {base b : Nat} {e t : TypeId} {k n : Nat} {v : Value} {xs : List Value} {cs : Array Value} (h : w.ownsRow base e k v n xs) (hb : w.heap[b]? = some (.cells cs t (0,0))) (ht : t ≠ e) (i : Nat) (u : Value) : (w.setCell ⟨b,i,none⟩ u).ownsRow base e k v n xs :=
  zai h (fun q hq hqv=>Below.heap_setCell w ⟨b,i,none⟩ u q (fun hx=>zaa h hb ht (by rw [hqv];exact congrArg some hx)))
structure ShSt (base b : Nat) (w : World) (v1 v2 vb : Value) (bks : List Bk) (s : Sf) : Prop where
  box : w.heap[b]? = some (.cells #[v1,v2,vb] 30 (0,0))
  lo : base<=b
  pool : OwnP base w v1 v2 s.cs s.ps
  books : OwnB base w vb bks
  eq : bks.map Bk.pb=s.bs
theorem ShSt.below {base b : Nat} {w w' : World} {v1 v2 vb : Value} {bks : List Bk} {s : Sf} (h : ShSt base b w v1 v2 vb bks s) (k : Below w.heap.size w w') : ShSt base b w' v1 v2 vb bks s :=
  ⟨(k.block _ (za2 h.box)).trans h.box,h.lo,h.pool.below k,h.books.below k,h.eq⟩
theorem ShSt.forms {base b : Nat} {w : World} {v1 v2 vb : Value} {bks : List Bk} {s : Sf} (h : ShSt base b w v1 v2 vb bks s) : ∀ x ∈ bks,∃ o k cp,x.m = .slice o k cp:=fun x hx=>by
  obtain ⟨o,cp,e⟩:=za4 (h.books.maps x hx);exact ⟨o,_,cp,e⟩
theorem ShSt.len {base b : Nat} {w : World} {v1 v2 vb : Value} {bks : List Bk} {s : Sf} (h : ShSt base b w v1 v2 vb bks s) : bks.length=s.bs.length:=by rw [<- h.eq,List.length_map]
theorem zbh {w : World} {base base' : Nat} {e e' : TypeId} {k k' : Nat} {v v' : Value} {n n' : Nat} {xs ys : List Value} (h : w.ownsRow base e k v n xs) (h' : w.ownsRow base' e' k' v' n' ys) (hne : e' ≠ e) (g : Nat) (hg : v'.ownBlock=some g) : v.ownBlock ≠ some g:=by
  rcases h'.2 with ⟨rfl,_⟩ | ⟨g',cap',cur,rfl,_,hh,_⟩
  · simp [Value.ownBlock] at hg
  · simp [Value.ownBlock] at hg
    subst hg;exact zaa h hh hne
theorem ShSt.pooled {base b : Nat} {w w' : World} {v1 v2 vb : Value} {bks : List Bk} {s : Sf} (h : ShSt base b w v1 v2 vb bks s) {cs ps : List Int} (own : OwnP base w' v1 v2 cs ps) (k : Only (fun i=>v1.ownBlock=some i\/v2.ownBlock=some i) w w') : ShSt base b w' v1 v2 vb bks ⟨cs,ps,s.bs⟩:=by
  have nb : ∀ (e : TypeId) (kk n : Nat) (v : Value) (xs : List Value),2 ≠ e->w.ownsRow base e kk v n xs->w'.ownsRow base e kk v n xs:=fun e kk n v xs he hr =>
    zbd hr k (fun g hg hS=>by
      rcases hS with q | q
      · exact zbh hr h.pool.c he g q hg
      · exact zbh hr h.pool.p he g q hg)
  refine ⟨?_,h.lo,own,⟨nb _ _ _ _ _ (by decide) h.books.row,fun x hx=>nb _ _ _ _ _ (by decide) (h.books.maps x hx)⟩,h.eq⟩;refine (k.block b (za2 h.box) (fun hS=>?_)).trans h.box;rcases hS with q | q
  · exact zaa h.pool.c h.box (by decide) q
  · exact zaa h.pool.p h.box (by decide) q
theorem ShSt.pool_only {base b : Nat} {w w' : World} {v1 v2 vb : Value} {bks : List Bk} {s : Sf} (h : ShSt base b w v1 v2 vb bks s) (k : Only (fun i=>v1.ownBlock=some i\/v2.ownBlock=some i) w w') : Below base w w' :=
  k.toBelow (Nat.le_trans h.lo (Nat.le_of_lt (za2 h.box))) (fun i hi=>by
    rcases hi with q | q
    · exact (h.pool.c.lt i q).1
    · exact (h.pool.p.lt i q).1)
theorem ShSt.put {base b g n cap : Nat} {w : World} {v1 v2 : Value} {bks : List Bk} {s : Sf} (h : ShSt base b w v1 v2 (.slice (some ⟨g,0,none⟩) n cap) bks s) (i j : Nat) (hi : i < bks.length) (hj : j < 5) (y : Bk) (u : Value) (hy : (bookC bks[i]).set j u=bookC y) (hm : w.ownsRow base 172 3 y.m y.rs.length (y.rs.flatMap zak)) :
    ShSt base b (w.setCell ⟨g,i * 5+j,none⟩ u) v1 v2 (.slice (some ⟨g,0,none⟩) n cap) (bks.set i y) ⟨s.cs,s.ps,s.bs.set i y.pb⟩/\Below base w (w.setCell ⟨g,i * 5+j,none⟩ u):=by
  have hg:=h.books.row.lt g rfl;have ub : Upto g w (w.setCell ⟨g,i * 5+j,none⟩ u):=(Upto.refl _ _).setCell ⟨g,i * 5+j,none⟩ (.inl rfl) _
  obtain ⟨cur,hcur⟩ : ∃ cur,w.heap[g]? = some (.cells cur 117 (0,0)):=by
    rcases h.books.row.2 with ⟨e,_⟩ | ⟨g',cap',cur,e,_,hh,_⟩
    · simp at e
    · simp only [Value.slice.injEq,Option.some.injEq,Addr.mk.injEq,and_true] at e
      obtain ⟨rfl,_⟩:=e;exact ⟨cur,hh⟩
  have st : ∀ (e : TypeId) (kk n : Nat) (v : Value) (xs : List Value),117 ≠ e->w.ownsRow base e kk v n xs->(w.setCell ⟨g,i * 5+j,none⟩ u).ownsRow base e kk v n xs:=fun e kk n v xs he hr =>
    zai hr (fun q hq hqv=>ub.block q hq (fun hx=>zaa hr hcur he (by rw [<- hx];exact hqv)))
  refine ⟨⟨?_,h.lo,⟨st _ _ _ _ _ (by decide) h.pool.c,st _ _ _ _ _ (by decide) h.pool.p,h.pool.apart⟩,⟨zb2 zae h.books.row i j _ y u (List.getElem?_eq_getElem hi) hj hy,fun x hx=>?_⟩,?_⟩,ub.toBelow (Nat.le_trans h.lo (Nat.le_of_lt (za2 h.box))) hg.1⟩
  · refine (ub.block b (za2 h.box) (fun e=>?_)).trans h.box
    rw [<- e,h.box] at hcur;simp at hcur
  · rcases List.mem_or_eq_of_mem_set hx with q | rfl
    · exact st _ _ _ _ _ (by decide) (h.books.maps x q)
    · exact st _ _ _ _ _ (by decide) hm
  · rw [<- h.eq,List.map_set]
theorem ShSt.rebook {base b : Nat} {w : World} {v1 v2 vb vb' : Value} {bks bks' : List Bk} {s : Sf} (h : ShSt base b w v1 v2 vb bks s) (nb : OwnB base w vb' bks') : ShSt base b (w.setCell ⟨b,2,none⟩ vb') v1 v2 vb' bks' ⟨s.cs,s.ps,bks'.map Bk.pb⟩/\Below base w (w.setCell ⟨b,2,none⟩ vb'):=by
  have ub : Upto b w (w.setCell ⟨b,2,none⟩ vb'):=(Upto.refl _ _).setCell ⟨b,2,none⟩ (.inl rfl) _
  have st : ∀ (e : TypeId) (kk n : Nat) (v : Value) (xs : List Value),30 ≠ e->w.ownsRow base e kk v n xs->(w.setCell ⟨b,2,none⟩ vb').ownsRow base e kk v n xs:=fun e kk n v xs he hr =>
    zai hr (fun q hq hqv=>ub.block q hq (fun hx=>zaa hr h.box he (by rw [<- hx];exact hqv)))
  exact ⟨⟨zab h.box 2 vb',h.lo,⟨st _ _ _ _ _ (by decide) h.pool.c,st _ _ _ _ _ (by decide) h.pool.p,h.pool.apart⟩,⟨st _ _ _ _ _ (by decide) nb.row,fun x hx=>st _ _ _ _ _ (by decide) (nb.maps x hx)⟩,rfl⟩,ub.toBelow (Nat.le_trans h.lo (Nat.le_of_lt (za2 h.box))) h.lo⟩
def ShW (b : Nat) (v1 v2 vb : Value) (i : Nat) : Prop:=i=b\/v1.ownBlock=some i\/v2.ownBlock=some i\/vb.ownBlock=some i
theorem ShSt.only_below {base b : Nat} {w w' : World} {v1 v2 vb : Value} {bks : List Bk} {s : Sf} (h : ShSt base b w v1 v2 vb bks s) (k : Only (ShW b v1 v2 vb) w w') : Below base w w' :=
  k.toBelow (Nat.le_trans h.lo (Nat.le_of_lt (za2 h.box))) (fun i hi=>by
    rcases hi with q | q | q | q
    · rw [q];exact h.lo
    · exact (h.pool.c.lt i q).1
    · exact (h.pool.p.lt i q).1
    · exact (h.books.row.lt i q).1)
theorem ShSt.keeps {base b n : Nat} {w w' : World} {v1 v2 vb : Value} {bks : List Bk} {s : Sf} {cs : Array Value} {T : TypeId} (h : ShSt base b w v1 v2 vb bks s) (k : Only (ShW b v1 v2 vb) w w') (hb : w.heap[n]? = some (.cells cs T (0,0))) (t1 : T ≠ 30) (t2 : T ≠ 2) (t3 : T ≠ 117) : w'.heap[n]? = some (.cells cs T (0,0)):=by
  refine (k.block n (za2 hb) (fun hi=>?_)).trans hb;rcases hi with q | q | q | q
  · rw [q,h.box] at hb
    simp at hb;exact t1 hb.2.symm
  · exact zaa h.pool.c hb t2 q
  · exact zaa h.pool.p hb t2 q
  · exact zaa h.books.row hb t3 q
theorem ShSt.keeps_b {base b n : Nat} {w w' : World} {v1 v2 vb : Value} {bks : List Bk} {s : Sf} {cs : Array Value} {T : TypeId} (h : ShSt base b w v1 v2 vb bks s) (k : Only (fun i=>i=b) w w') (hb : w.heap[n]? = some (.cells cs T (0,0))) (t1 : T ≠ 30) : w'.heap[n]? = some (.cells cs T (0,0)):=by
  refine (k.block n (za2 hb) (fun hi=>?_)).trans hb;rw [hi,h.box] at hb;simp at hb;exact t1 hb.2.symm
end Go.Proofs.YtfkkapdofjhgpaaGreatDoor
