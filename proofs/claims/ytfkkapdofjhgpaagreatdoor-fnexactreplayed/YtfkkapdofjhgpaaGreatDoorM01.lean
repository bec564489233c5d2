import Derived.WalkKit
import Derived.Below
import Derived.Laws.AppendOwn
import Derived.Deep.QuietTactic
import Derived.BigQuiet
import Derived.Test.YtfkkapdofjhgpaaGreatDoorChecked
import Derived.Laws.OwnMore
import Derived.OwnWalk
import Derived.LaidEql
import Derived.Stop.Asserts
import Derived.RowKitTokens
import Derived.RangeFuncBox
set_option maxHeartbeats 12800000
namespace Go.Proofs.YtfkkapdofjhgpaaGreatDoor
open Go.RowKit
structure Upto (c : Nat) (w w' : World) : Prop where
  os : w'.os=w.os
  tape : w'.tape=w.tape
  output : w'.output=w.output
  size : w.heap.size<=w'.heap.size
  block : ∀ k,k < w.heap.size->k ≠ c->w'.heap[k]? = w.heap[k]?
theorem Upto.refl (c : Nat) (w : World) : Upto c w w:=⟨rfl,rfl,rfl,Nat.le_refl _,fun _ _ _=>rfl⟩
theorem Upto.trans {c : Nat} {a b d : World} (h : Upto c a b) (k : Upto c b d) : Upto c a d :=
  ⟨k.os.trans h.os,k.tape.trans h.tape,k.output.trans h.output,Nat.le_trans h.size k.size,fun i hi hc=>(k.block i (Nat.lt_of_lt_of_le hi h.size) hc).trans (h.block i hi hc)⟩
theorem Upto.drew {c : Nat} {a w : World} (h : Upto c a w) : Upto c a w.drew:=⟨h.os,h.tape,h.output,h.size,h.block⟩
theorem Upto.drewN {c : Nat} {a w : World} (h : Upto c a w) (n : Nat) : Upto c a (w.drewN n):=⟨h.os,h.tape,h.output,h.size,h.block⟩
theorem Upto.below {c : Nat} {a w w' : World} (h : Upto c a w) (k : Below w.heap.size w w') : Upto c a w' :=
  ⟨k.os.trans h.os,k.tape.trans h.tape,k.output.trans h.output,Nat.le_trans h.size k.size,fun i hi hc=>(k.block i (Nat.lt_of_lt_of_le hi h.size)).trans (h.block i hi hc)⟩
theorem Upto.ofBelow {c : Nat} {w w' : World} (k : Below w.heap.size w w') : Upto c w w':=(Upto.refl c w).below k
theorem Upto.alloc {c : Nat} {a w : World} (h : Upto c a w) (o : Obj) : Upto c a (w.alloc o):=h.below ((Below.refl _ _).alloc (Nat.le_refl _) o)
theorem Upto.setCell {c : Nat} {a w : World} (h : Upto c a w) (p : Addr) (hp : p.block=c\/a.heap.size<=p.block) (u : Value) : Upto c a (w.setCell p u) :=
  ⟨h.os,h.tape,h.output,by simpa [World.setCell] using h.size,fun i hi hc=>(Below.heap_setCell w p u i (by rcases hp with e | e <;> omega)).trans (h.block i hi hc)⟩
theorem Upto.toBelow {c B : Nat} {w w' : World} (h : Upto c w w') (hB : B<=w.heap.size) (hc : B<=c) : Below B w w' :=
  ⟨h.os,h.tape,h.output,h.size,fun k hk=>h.block k (by omega) (by omega)⟩
theorem Upto.cell {c : Nat} {w w' : World} (h : Upto c w w') {p : Addr} (hp : p.block < w.heap.size) (hc : p.block ≠ c) : w'.cell? p=w.cell? p:=World.cell?_of_block (w:=w) (h.block p.block hp hc)
theorem Upto.frozen {c : Nat} {w w' : World} (h : Upto c w w') {p : Addr} (hp : p.block < w.heap.size) (hc : p.block ≠ c) : w'.frozen? p=w.frozen? p:=World.frozen?_of_block (w:=w) (h.block p.block hp hc)
theorem Upto.grown {c : Nat} {a w w' : World} {row : Option Nat} (h : Upto c a w) (hg : w.grownBy w' row) (hr : ∀ k,row=some k->a.heap.size<=k\/k=c) : Upto c a w':=by
  have hb : Below 0 w w':=(Below.refl 0 w).grown hg (Nat.zero_le _) (fun _ _=>Nat.zero_le _)
  exact ⟨hb.os.trans h.os,hb.tape.trans h.tape,hb.output.trans h.output,Nat.le_trans h.size hb.size,fun i hi hc=>by
    refine (hg.block i (Nat.lt_of_lt_of_le hi h.size) ?_).trans (h.block i hi hc);intro e
    rcases hr i e.symm with e' | e' <;> omega⟩
theorem zbc {w w' : World} {c base : Nat} {e : TypeId} {size : Nat} {v : Value} {n : Nat} {xs : List Value} (h : w.ownsRow base e size v n xs) (u : Upto c w w') (hb : c < base) : w'.ownsRow base e size v n xs:=by
  obtain ⟨h1,h2⟩:=h;refine ⟨h1,?_⟩
  rcases h2 with h2 | ⟨g,cap,cur,hv,hg,hh,r⟩
  · exact Or.inl h2
  · have hlt : g < w.heap.size:=by
      rcases Nat.lt_or_ge g w.heap.size with q | q
      · exact q
      · simp [Array.getElem?_eq_none q] at hh
    exact Or.inr ⟨g,cap,cur,hv,hg,by rw [u.block g hlt (by omega)];exact hh,r⟩
structure BelowOf (w : World) where
  w' : World
  h : Below w.heap.size w w'
theorem BelowOf.any (w : World) : Nonempty (BelowOf w):=⟨⟨w,Below.refl _ _⟩⟩
theorem BelowOf.cell {w : World} {a : Addr} {v : Value} (h : w.cell? a=some v) (ha : a.block < w.heap.size) : ∀ p : BelowOf w,p.w'.cell? a=some v:=fun p=>(p.h.cell ha).trans h
theorem zad {P : Program} {id : Nat} {Q : Exit->Act->World->Prop} {a : Act} {w : World} {l : List Oper} (hm : P.follows .mixedOrders=true) (hB : Region.lexB .any l.toArray=true)
    (h : wpQuiet P l.toArray (fun w'=>∃ p : BelowOf w,w'=p.w') (fun a'=>∀ w',(∃ p : BelowOf w,w'=p.w')->Q .normal a' w') l a) : (Code.region id l.toArray true).wp P Q a w :=
  wp_region_quiet (C:=fun w'=>∃ p : BelowOf w,w'=p.w') hm hB ⟨⟨{ w with drawn:=w.drawn+1 },⟨rfl,rfl,rfl,Nat.le_refl _,fun _ _=>rfl⟩⟩,rfl⟩ (by simpa using h)
theorem zb1 {P : Program} {f : FuncId} {args : Array Value} {w : World} {v : Value} {p : BelowOf w}
    (h : Calls P f args p.w' fun e w'=>e = .returned v/\Below p.w'.heap.size p.w' w') : Calls P f args p.w' fun e w''=>e = .returned v/\∃ q : BelowOf w,w''=q.w' :=
  h.mono fun _ w'' ⟨he,hk⟩=>⟨he,⟨w'',p.h.trans (hk.mono p.h.size)⟩,rfl⟩
structure Cur (w : World) (c : Nat) (x : Option Addr) (len cap : Nat) : Prop where
  lt : c < w.heap.size
  hm : len<=maxLen
  b : w.cell? ⟨c,0,none⟩=some (.slice x len cap)
  ih : ∃ (i : Nat) (h : Int),i<=len/\w.cell? ⟨c,1,none⟩=some (.int .i64 i)/\w.cell? ⟨c,2,none⟩=some (.int .i64 h)
  f1 : w.frozen? ⟨c,1,none⟩=false
  f2 : w.frozen? ⟨c,2,none⟩=false
  src : ∀ j,j < len->∃ b off z,x=some ⟨b,off,none⟩/\b < c/\w.cell? ⟨b,off+j,none⟩=some (.int .u8 z)/\0<=z/\z<=255
theorem Cur.same {w w' : World} {c : Nat} {x : Option Addr} {len cap : Nat} (h : Cur w c x len cap) (k : Below (c+1) w w') : Cur w' c x len cap:=by
  obtain ⟨i,q,hi,h1,h2⟩:=h.ih;have hc : ∀ o,w'.cell? ⟨c,o,none⟩=w.cell? ⟨c,o,none⟩:=fun o=>k.cell (p:=⟨c,o,none⟩) (Nat.lt_succ_self c)
  have hf : ∀ o,w'.frozen? ⟨c,o,none⟩=w.frozen? ⟨c,o,none⟩:=fun o=>k.frozen (p:=⟨c,o,none⟩) (Nat.lt_succ_self c)
  refine ⟨Nat.lt_of_lt_of_le h.lt k.size,h.hm,(hc 0).trans h.b,⟨i,q,hi,(hc 1).trans h1,(hc 2).trans h2⟩,(hf 1).trans h.f1,(hf 2).trans h.f2,fun j hj=>?_⟩;obtain ⟨b,off,z,e,hb,hz,h3,h4⟩:=h.src j hj;exact ⟨b,off,z,e,hb,(k.cell (p:=⟨b,off+j,none⟩) (Nat.lt_succ_of_lt hb)).trans hz,h3,h4⟩
theorem Cur.alloc {w : World} {c : Nat} {x : Option Addr} {len cap : Nat} (h : Cur w c x len cap) (o : Obj) : Cur (w.alloc o) c x len cap :=
  h.same ((Below.refl _ _).alloc h.lt o)
theorem Cur.drew {w : World} {c : Nat} {x : Option Addr} {len cap : Nat} (h : Cur w c x len cap) : Cur w.drew c x len cap :=
  h.same ((Below.refl _ _).drew)
theorem Cur.below {w w' : World} {c : Nat} {x : Option Addr} {len cap : Nat} (h : Cur w c x len cap) (k : Below w.heap.size w w') : Cur w' c x len cap :=
  h.same (k.mono h.lt)
theorem Cur.step {w w' : World} {c : Nat} {x : Option Addr} {len cap : Nat} (h : Cur w c x len cap) (k : Upto c w w') (i : Nat) (q : Int) (hi : i<=len) (h0 : w'.cell? ⟨c,0,none⟩=w.cell? ⟨c,0,none⟩)
    (h1 : w'.cell? ⟨c,1,none⟩=some (.int .i64 i)) (h2 : w'.cell? ⟨c,2,none⟩=some (.int .i64 q)) (g1 : w'.frozen? ⟨c,1,none⟩=false) (g2 : w'.frozen? ⟨c,2,none⟩=false) : Cur w' c x len cap:=by
  refine ⟨Nat.lt_of_lt_of_le h.lt k.size,h.hm,h0.trans h.b,⟨i,q,hi,h1,h2⟩,g1,g2,fun j hj=>?_⟩;obtain ⟨b,off,z,e,hb,hz,h3,h4⟩:=h.src j hj;exact ⟨b,off,z,e,hb,(k.cell (p:=⟨b,off+j,none⟩) (Nat.lt_trans hb h.lt) (Nat.ne_of_lt hb)).trans hz,h3,h4⟩
end Go.Proofs.YtfkkapdofjhgpaaGreatDoor
namespace Go.Proofs.YtfkkapdofjhgpaaGreatDoor
open Go.RowKit
set_option linter.unusedVariables false
set_option maxRecDepth 100000
theorem Tryz.infoI64 : (Tryz.prog.info? 2).map (fun i=>(i.zero,i.size,i.bytes))=some (some (.int .i64 0),1,8):=by kernel_rfl
theorem za9 {w w' : World} {base : Nat} {e : TypeId} {size : Nat} {v : Value} {n : Nat} {xs : List Value} (h : w.ownsRow base e size v n xs) (k : Below w.heap.size w w') : w'.ownsRow base e size v n xs:=by
  obtain ⟨h1,h2⟩:=h;refine ⟨h1,?_⟩
  rcases h2 with h2 | ⟨g,cap,cur,hv,hg,hh,r⟩
  · exact Or.inl h2
  · have hlt : g < w.heap.size:=by
      rcases Nat.lt_or_ge g w.heap.size with q | q
      · exact q
      · simp [Array.getElem?_eq_none q] at hh
    exact Or.inr ⟨g,cap,cur,hv,hg,by rw [k.block g hlt];exact hh,r⟩
theorem zfn {w : World} {base : Nat} {e : TypeId} {size : Nat} {v : Value} {n : Nat} {xs : List Value} (h : w.ownsRow base e size v (n+1) xs) : ∃ g cap,v = .slice (some ⟨g,0,none⟩) (n+1) cap:=by
  rcases h.2 with ⟨_,hn⟩ | ⟨g,cap,cur,hv,_⟩
  · omega
  · exact ⟨g,cap,hv⟩
theorem zkj (w : World) (v : Value) (t : TypeId) : ∀ (j : Nat) (u : Value),[v][j]? = some u->(w.alloc (.cells #[v] t)).cell? ((⟨w.heap.size,0,none⟩ : Addr).add j)=some u:=by
  intro j u hj
  match j,hj with
  | 0,hj=>simp at hj;subst hj;simp [Addr.add,go_sem]
def Reads (B : Nat) (w : World) (v : Value) (xs : List Value) : Prop :=
  ∃ o cap,v = .slice o xs.length cap/\xs.length<=maxLen/\(∀ j u,xs[j]? = some u->∃ g off,o=some ⟨g,off,none⟩/\g < B/\w.cell? ⟨g,off+j,none⟩=some u)/\xs.length<=cap
theorem Reads.below {B : Nat} {w w' : World} {v : Value} {xs : List Value} (h : Reads B w v xs) (k : Below B w w') : Reads B w' v xs:=by
  obtain ⟨o,cap,hv,hm,hc,hr⟩:=h;refine ⟨o,cap,hv,hm,fun j u hj=>?_,hr⟩;obtain ⟨g,off,e,hg,hx⟩:=hc j u hj;exact ⟨g,off,e,hg,(k.cell (p:=⟨g,off+j,none⟩) hg).trans hx⟩
theorem Reads.mono {B B' : Nat} {w : World} {v : Value} {xs : List Value} (h : Reads B w v xs) (k : B<=B') : Reads B' w v xs:=by
  obtain ⟨o,cap,hv,hm,hc,hr⟩:=h;refine ⟨o,cap,hv,hm,fun j u hj=>?_,hr⟩;obtain ⟨g,off,e,hg,hx⟩:=hc j u hj;exact ⟨g,off,e,Nat.lt_of_lt_of_le hg k,hx⟩
theorem Reads.of_own {w : World} {base n : Nat} {e : TypeId} {v : Value} {xs : List Value} (h : w.ownsRow base e 1 v n xs) : Reads w.heap.size w v xs:=by
  have hn : xs.length=n:=by simpa using h.1
  subst hn
  rcases h.2 with ⟨rfl,hn⟩ | ⟨g,cap,cur,rfl,hg,hh,hnc,hcm,hcs,htk⟩
  · have : xs = []:=List.length_eq_zero_iff.1 hn
    subst this;exact ⟨none,0,rfl,Nat.zero_le _,fun j u hj=>absurd hj (by simp),Nat.le_refl _⟩
  · refine ⟨some ⟨g,0,none⟩,cap,rfl,Nat.le_trans hnc hcm,fun j u hj=>⟨g,0,rfl,?_,?_⟩,hnc⟩
    · rcases Nat.lt_or_ge g w.heap.size with q | q
      · exact q
      · simp [Array.getElem?_eq_none q] at hh
    · have hj':=(List.getElem?_eq_some_iff.1 hj).1
      rw [Nat.zero_add,h.cellAt j (by omega),hj]
theorem za0 {W : World} {b : Nat} {cs : Array Value} {t : TypeId} (h : W.heap[b]? = some (.cells cs t (0,0))) (i : Nat) : W.cell? ⟨b,i,none⟩=cs[i]?:=by simp [World.cell?,h]
theorem za8 {W : World} {b : Nat} {cs : Array Value} {t : TypeId} (h : W.heap[b]? = some (.cells cs t (0,0))) (i : Nat) : W.frozen? ⟨b,i,none⟩=false:=by simp [World.frozen?,h]
theorem cq2 {W : World} {b : Nat} {cs : Array Value} {t : TypeId} (h : W.heap[b]? = some (.cells cs t (0,0))) : W.cell? ⟨b,0,none⟩=cs[0]?/\W.cell? ⟨b,1,none⟩=cs[1]?:=⟨za0 h 0,za0 h 1⟩
theorem oq2 {W : World} {b : Nat} {cs : Array Value} {t : TypeId} (h : W.heap[b]? = some (.cells cs t (0,0))) : W.frozen? ⟨b,0,none⟩=false/\W.frozen? ⟨b,1,none⟩=false:=⟨za8 h 0,za8 h 1⟩
theorem cq3 {W : World} {b : Nat} {cs : Array Value} {t : TypeId} (h : W.heap[b]? = some (.cells cs t (0,0))) : W.cell? ⟨b,0,none⟩=cs[0]?/\W.cell? ⟨b,1,none⟩=cs[1]?/\W.cell? ⟨b,2,none⟩=cs[2]?:=⟨za0 h 0,za0 h 1,za0 h 2⟩
theorem oq3 {W : World} {b : Nat} {cs : Array Value} {t : TypeId} (h : W.heap[b]? = some (.cells cs t (0,0))) : W.frozen? ⟨b,0,none⟩=false/\W.frozen? ⟨b,1,none⟩=false/\W.frozen? ⟨b,2,none⟩=false:=⟨za8 h 0,za8 h 1,za8 h 2⟩
theorem cq4 {W : World} {b : Nat} {cs : Array Value} {t : TypeId} (h : W.heap[b]? = some (.cells cs t (0,0))) : W.cell? ⟨b,0,none⟩=cs[0]?/\W.cell? ⟨b,1,none⟩=cs[1]?/\W.cell? ⟨b,2,none⟩=cs[2]?/\W.cell? ⟨b,3,none⟩=cs[3]?:=⟨za0 h 0,za0 h 1,za0 h 2,za0 h 3⟩
theorem oq4 {W : World} {b : Nat} {cs : Array Value} {t : TypeId} (h : W.heap[b]? = some (.cells cs t (0,0))) : W.frozen? ⟨b,0,none⟩=false/\W.frozen? ⟨b,1,none⟩=false/\W.frozen? ⟨b,2,none⟩=false/\W.frozen? ⟨b,3,none⟩=false:=⟨za8 h 0,za8 h 1,za8 h 2,za8 h 3⟩
theorem cq5 {W : World} {b : Nat} {cs : Array Value} {t : TypeId} (h : W.heap[b]? = some (.cells cs t (0,0))) : W.cell? ⟨b,0,none⟩=cs[0]?/\W.cell? ⟨b,1,none⟩=cs[1]?/\W.cell? ⟨b,2,none⟩=cs[2]?/\W.cell? ⟨b,3,none⟩=cs[3]?/\W.cell? ⟨b,4,none⟩=cs[4]?:=⟨za0 h 0,za0 h 1,za0 h 2,za0 h 3,za0 h 4⟩
theorem oq5 {W : World} {b : Nat} {cs : Array Value} {t : TypeId} (h : W.heap[b]? = some (.cells cs t (0,0))) : W.frozen? ⟨b,0,none⟩=false/\W.frozen? ⟨b,1,none⟩=false/\W.frozen? ⟨b,2,none⟩=false/\W.frozen? ⟨b,3,none⟩=false/\W.frozen? ⟨b,4,none⟩=false:=⟨za8 h 0,za8 h 1,za8 h 2,za8 h 3,za8 h 4⟩
theorem cq6 {W : World} {b : Nat} {cs : Array Value} {t : TypeId} (h : W.heap[b]? = some (.cells cs t (0,0))) : W.cell? ⟨b,0,none⟩=cs[0]?/\W.cell? ⟨b,1,none⟩=cs[1]?/\W.cell? ⟨b,2,none⟩=cs[2]?/\W.cell? ⟨b,3,none⟩=cs[3]?/\W.cell? ⟨b,4,none⟩=cs[4]?/\W.cell? ⟨b,5,none⟩=cs[5]?:=⟨za0 h 0,za0 h 1,za0 h 2,za0 h 3,za0 h 4,za0 h 5⟩
theorem oq6 {W : World} {b : Nat} {cs : Array Value} {t : TypeId} (h : W.heap[b]? = some (.cells cs t (0,0))) : W.frozen? ⟨b,0,none⟩=false/\W.frozen? ⟨b,1,none⟩=false/\W.frozen? ⟨b,2,none⟩=false/\W.frozen? ⟨b,3,none⟩=false/\W.frozen? ⟨b,4,none⟩=false/\W.frozen? ⟨b,5,none⟩=false:=⟨za8 h 0,za8 h 1,za8 h 2,za8 h 3,za8 h 4,za8 h 5⟩
theorem cq7 {W : World} {b : Nat} {cs : Array Value} {t : TypeId} (h : W.heap[b]? = some (.cells cs t (0,0))) : W.cell? ⟨b,0,none⟩=cs[0]?/\W.cell? ⟨b,1,none⟩=cs[1]?/\W.cell? ⟨b,2,none⟩=cs[2]?/\W.cell? ⟨b,3,none⟩=cs[3]?/\W.cell? ⟨b,4,none⟩=cs[4]?/\W.cell? ⟨b,5,none⟩=cs[5]?/\W.cell? ⟨b,6,none⟩=cs[6]?:=⟨za0 h 0,za0 h 1,za0 h 2,za0 h 3,za0 h 4,za0 h 5,za0 h 6⟩
theorem oq7 {W : World} {b : Nat} {cs : Array Value} {t : TypeId} (h : W.heap[b]? = some (.cells cs t (0,0))) : W.frozen? ⟨b,0,none⟩=false/\W.frozen? ⟨b,1,none⟩=false/\W.frozen? ⟨b,2,none⟩=false/\W.frozen? ⟨b,3,none⟩=false/\W.frozen? ⟨b,4,none⟩=false/\W.frozen? ⟨b,5,none⟩=false/\W.frozen? ⟨b,6,none⟩=false:=⟨za8 h 0,za8 h 1,za8 h 2,za8 h 3,za8 h 4,za8 h 5,za8 h 6⟩
theorem cq8 {W : World} {b : Nat} {cs : Array Value} {t : TypeId} (h : W.heap[b]? = some (.cells cs t (0,0))) : W.cell? ⟨b,0,none⟩=cs[0]?/\W.cell? ⟨b,1,none⟩=cs[1]?/\W.cell? ⟨b,2,none⟩=cs[2]?/\W.cell? ⟨b,3,none⟩=cs[3]?/\W.cell? ⟨b,4,none⟩=cs[4]?/\W.cell? ⟨b,5,none⟩=cs[5]?/\W.cell? ⟨b,6,none⟩=cs[6]?/\W.cell? ⟨b,7,none⟩=cs[7]?:=⟨za0 h 0,za0 h 1,za0 h 2,za0 h 3,za0 h 4,za0 h 5,za0 h 6,za0 h 7⟩
theorem oq8 {W : World} {b : Nat} {cs : Array Value} {t : TypeId} (h : W.heap[b]? = some (.cells cs t (0,0))) : W.frozen? ⟨b,0,none⟩=false/\W.frozen? ⟨b,1,none⟩=false/\W.frozen? ⟨b,2,none⟩=false/\W.frozen? ⟨b,3,none⟩=false/\W.frozen? ⟨b,4,none⟩=false/\W.frozen? ⟨b,5,none⟩=false/\W.frozen? ⟨b,6,none⟩=false/\W.frozen? ⟨b,7,none⟩=false:=⟨za8 h 0,za8 h 1,za8 h 2,za8 h 3,za8 h 4,za8 h 5,za8 h 6,za8 h 7⟩
theorem cq9 {W : World} {b : Nat} {cs : Array Value} {t : TypeId} (h : W.heap[b]? = some (.cells cs t (0,0))) : W.cell? ⟨b,0,none⟩=cs[0]?/\W.cell? ⟨b,1,none⟩=cs[1]?/\W.cell? ⟨b,2,none⟩=cs[2]?/\W.cell? ⟨b,3,none⟩=cs[3]?/\W.cell? ⟨b,4,none⟩=cs[4]?/\W.cell? ⟨b,5,none⟩=cs[5]?/\W.cell? ⟨b,6,none⟩=cs[6]?/\W.cell? ⟨b,7,none⟩=cs[7]?/\W.cell? ⟨b,8,none⟩=cs[8]?:=⟨za0 h 0,za0 h 1,za0 h 2,za0 h 3,za0 h 4,za0 h 5,za0 h 6,za0 h 7,za0 h 8⟩
theorem oq9 {W : World} {b : Nat} {cs : Array Value} {t : TypeId} (h : W.heap[b]? = some (.cells cs t (0,0))) : W.frozen? ⟨b,0,none⟩=false/\W.frozen? ⟨b,1,none⟩=false/\W.frozen? ⟨b,2,none⟩=false/\W.frozen? ⟨b,3,none⟩=false/\W.frozen? ⟨b,4,none⟩=false/\W.frozen? ⟨b,5,none⟩=false/\W.frozen? ⟨b,6,none⟩=false/\W.frozen? ⟨b,7,none⟩=false/\W.frozen? ⟨b,8,none⟩=false:=⟨za8 h 0,za8 h 1,za8 h 2,za8 h 3,za8 h 4,za8 h 5,za8 h 6,za8 h 7,za8 h 8⟩
theorem zah {w : World} {base base' : Nat} {e : TypeId} {size : Nat} {v : Value} {n : Nat} {xs : List Value} (h : w.ownsRow base e size v n xs) (k : base'<=base) : w.ownsRow base' e size v n xs:=by
  obtain ⟨h1,h2⟩:=h;refine ⟨h1,?_⟩
  rcases h2 with h2 | ⟨g,cap,cur,hv,hg,r⟩
  · exact Or.inl h2
  · exact Or.inr ⟨g,cap,cur,hv,by omega,r⟩
theorem zyw {W : World} {b : Nat} {x0 y0 : Value} {t : TypeId} (h : W.heap[b]? = some (.cells #[x0,y0] t (0,0))) (x : Value) : (W.setCell ⟨b,0,none⟩ x).heap[b]? = some (.cells #[x,y0] t (0,0)):=by
  obtain ⟨hlt,hk⟩:=Array.getElem?_eq_some_iff.1 h
  show (W.heap.modify b _)[b]? = _
  rw [Array.getElem?_eq_getElem (by rw [Array.size_modify];exact hlt),Array.getElem_modify_self,hk]
  rfl
theorem zyx {W : World} {b : Nat} {x0 y0 : Value} {t : TypeId} (h : W.heap[b]? = some (.cells #[x0,y0] t (0,0))) (y : Value) : (W.setCell ⟨b,1,none⟩ y).heap[b]? = some (.cells #[x0,y] t (0,0)):=by
  obtain ⟨hlt,hk⟩:=Array.getElem?_eq_some_iff.1 h
  show (W.heap.modify b _)[b]? = _
  rw [Array.getElem?_eq_getElem (by rw [Array.size_modify];exact hlt),Array.getElem_modify_self,hk]
  rfl
theorem zcp {W : World} {b : Nat} {x0 y0 : Value} {t : TypeId} (h : W.heap[b]? = some (.cells #[x0,y0] t (0,0))) (x y : Value) :
    ((W.setCell ⟨b,0,none⟩ x).setCell ⟨b,1,none⟩ y).heap[b]? = some (.cells #[x,y] t (0,0))/\Upto b W ((W.setCell ⟨b,0,none⟩ x).setCell ⟨b,1,none⟩ y) :=
  ⟨zyx (zyw h x) y,((Upto.refl b W).setCell _ (.inl rfl) _).setCell _ (.inl rfl) _⟩
theorem za3 {w W : World} {o : Obj} (h : Below w.heap.size w W) : Below w.heap.size w (W.alloc o):=h.alloc h.size o
theorem zar {w W : World} (h : Below w.heap.size w W) : Below w.heap.size w W.drew:=⟨h.os,h.tape,h.output,h.size,h.block⟩
theorem zb8 {w W : World} (h : Below w.heap.size w W) {p : Addr} (hp : w.heap.size<=p.block) (v : Value) : Below w.heap.size w (W.setCell p v):=h.setCell hp v
theorem za1 {w W W' : World} (h : Below w.heap.size w W) (b : Below W.heap.size W W') : Below w.heap.size w W':=h.trans (b.mono h.size)
theorem zgj (b j : Nat) : (⟨b,0,none⟩ : Addr).add j=⟨b,j,none⟩:=by unfold Addr.add;split <;> simp_all
theorem zbw {P : Program} {f : FuncId} {args : Array Value} {w : World} {v : Value} {p : BelowOf w}
    (h : Calls P f args p.w' fun e w'=>e = .returned v/\w'=p.w') : Calls P f args p.w' fun e w''=>e = .returned v/\∃ q : BelowOf w,w''=q.w' :=
  h.mono fun _ w'' ⟨he,hk⟩=>⟨he,p,hk⟩
theorem zn3 {w : World} {g off : Nat} {xs : List Value} (h : ∀ j u,xs[j]? = some u->w.cell? ⟨g,off+j,none⟩=some u) : ∀ j u,xs[j]? = some u->w.cell? ((⟨g,off,none⟩ : Addr).add j)=some u:=fun j u hj=>by
  have e : (⟨g,off,none⟩ : Addr).add j=⟨g,off+j,none⟩:=by unfold Addr.add;split <;> simp_all
  rw [e];exact h j u hj
theorem ziu {P : Program} (w : World) (base : Nat) (t ty e : TypeId) (i : TypeInfo) (z : Value) (size bytes : Nat) (ht : P.underlying t=some (.slice e)) (hi : P.info? e=some i) (hz : i.zero=some z)
    (hsize : i.size=size) (hby : i.bytes=bytes) (hzs : z.cells.size=size) (hsz : 0 < size)
    (v : Value) (n : Nat) (xs : List Value) (hown : w.ownsRow base e size v n xs)
    (o : Option Addr) (m c : Nat) (news : List Value) (hl : news.length=m * size) (hnews : ∀ j u,news[j]? = some u->∃ g off,o=some ⟨g,off,none⟩/\w.cell? ⟨g,off+j,none⟩=some u) (h1 : ∀ u ∈ news,u.oneCell'=true)
    (h63 : n+m<=maxLen) (hbytes : (n+m) * bytes<=140737488355328) (hbase : base<=w.heap.size) :
    ∃ v' w',(Builtin.append_ #[t,t] ty #[v,.slice o m c]).run P w = .ok v' w'/\w'.ownsRow base e size v' (n+m) (xs ++ news)/\w.grownBy w' v.ownBlock /\
      (v' = .slice none 0 0 ↔ v = .slice none 0 0/\m=0):=by
  cases o with
  | none =>
    have hn : news = []:=by
      cases news with
      | nil=>rfl
      | cons a l=>obtain ⟨_,_,h,_⟩:=hnews 0 a rfl;cases h
    subst hn
    have hm : m=0:=by
      rcases Nat.eq_zero_or_pos m with h | h
      · exact h
      · have:=Nat.mul_pos h hsz;simp at hl;omega
    subst hm;refine ⟨v,w,?_,by simpa using hown,⟨rfl,rfl,rfl,Nat.le_refl _,fun _ _ _=>rfl⟩,by simp⟩
    rcases hown.2 with ⟨rfl,rfl⟩ | ⟨g,cap,cur,rfl,_,_,hnc,_⟩
    · simp [Builtin.append_,run_underlying ht,sizeOf,typeInfo,hi,Builtin.lenOf,Builtin.firstCells]
    · simp [Builtin.append_,run_underlying ht,sizeOf,typeInfo,hi,Builtin.lenOf,Builtin.firstCells,hnc,storeCells]
  | some ad =>
    refine run_append_own (P:=P) w base t ty e i z size bytes ht hi hz hsize hby hzs hsz v n xs hown ad m c news hl (fun j u hj=>?_) h1 h63 hbytes hbase;obtain ⟨g,off,hg,hc⟩:=hnews j u hj;cases hg;have ea : (⟨g,off,none⟩ : Addr).add j=⟨g,off+j,none⟩:=by unfold Addr.add;split <;> simp_all
    rw [ea];exact hc
theorem zgd {P : Program} {w : World} {o : Oper} {a : Act} {K : Act->World->Prop} {Q : Exit->Act->World->Prop} (s x : Operand) (t : TypeId)
    (ho : o.op = .call { callee:=.builtin .append,args:=#[s,x],argTypes:=#[t,t] })
    (base : Nat) (e : TypeId) (i : TypeInfo) (z : Value) (size bytes : Nat) (ht : P.underlying t=some (.slice e)) (hi : P.info? e=some i) (hz : i.zero=some z)
    (hsize : i.size=size) (hby : i.bytes=bytes) (hzs : z.cells.size=size) (hsz : 0 < size)
    (v : Value) (n : Nat) (xs : List Value) (hs : a.eval s=v) (hown : w.ownsRow base e size v n xs)
    (ad : Option Addr) (m c : Nat) (news : List Value) (hx : a.eval x = .slice ad m c) (hl : news.length=m * size) (hnews : ∀ j u,news[j]? = some u->∃ g off,ad=some ⟨g,off,none⟩/\w.cell? ⟨g,off+j,none⟩=some u) (h1 : ∀ u ∈ news,u.oneCell'=true)
    (h63 : n+m<=maxLen) (hbytes : (n+m) * bytes<=140737488355328) (hbase : base<=w.heap.size)
    (h : ∀ v' w',w'.ownsRow base e size v' (n+m) (xs ++ news)->w.grownBy w' v.ownBlock->(v' = .slice none 0 0 ↔ v = .slice none 0 0/\m=0)->K (a.put o.dst v') w') : o.wp P a w K Q:=by
  obtain ⟨v',w',hr,h2,h3,h4⟩:=ziu (P:=P) w base t o.type e i z size bytes ht hi hz hsize hby hzs hsz v n xs hown ad m c news hl hnews h1 h63 hbytes hbase;unfold Oper.wp execOp;simp only [ho,resolve,invoke,builtin,Sem.run_bind,Sem.run_pure,Result.andThen_ok,List.map_toArray,List.map_cons,List.map_nil,hs,hx,hr];exact h v' w' h2 h3 h4
theorem zb5 {P : Program} {w : World} {ops : Array Oper} {rest : List Oper} {o : Oper} {a : Act} {Q : Exit->Act->World->Prop} (hgd : o.guard=none) (s x : Operand) (t : TypeId)
    (ho : o.op = .call { callee:=.builtin .append,args:=#[s,x],argTypes:=#[t,t] })
    (base : Nat) (e : TypeId) (i : TypeInfo) (z : Value) (size bytes : Nat) (ht : P.underlying t=some (.slice e)) (hi : P.info? e=some i) (hz : i.zero=some z)
    (hsize : i.size=size) (hby : i.bytes=bytes) (hzs : z.cells.size=size) (hsz : 0 < size)
    (v : Value) (n : Nat) (xs : List Value) (hs : a.eval s=v) (hown : w.ownsRow base e size v n xs)
    (ad : Option Addr) (m c : Nat) (news : List Value) (hx : a.eval x = .slice ad m c) (hl : news.length=m * size) (hnews : ∀ j u,news[j]? = some u->∃ g off,ad=some ⟨g,off,none⟩/\w.cell? ⟨g,off+j,none⟩=some u) (h1 : ∀ u ∈ news,u.oneCell'=true)
    (h63 : n+m<=maxLen) (hbytes : (n+m) * bytes<=140737488355328) (hbase : base<=w.heap.size)
    (h : ∀ v' w',w'.ownsRow base e size v' (n+m) (xs ++ news)->w.grownBy w' v.ownBlock->(v' = .slice none 0 0 ↔ v = .slice none 0 0/\m=0)->wpList P ops Q rest (a.put o.dst v') w') : wpList P ops Q (o :: rest) a w :=
  wpList_plain hgd fun _ hK=>zgd s x t ho base e i z size bytes ht hi hz hsize hby hzs hsz v n xs hs hown ad m c news hx hl hnews h1 h63 hbytes hbase fun v' w' h2 h3 h4=>hK _ _ (h v' w' h2 h3 h4)
theorem zge {P : Program} (w : World) (base : Nat) (t ty e : TypeId) (i : TypeInfo) (z : Value) (size bytes : Nat) (ht : P.underlying t=some (.slice e)) (hi : P.info? e=some i) (hz : i.zero=some z)
    (hsize : i.size=size) (hby : i.bytes=bytes) (hzs : z.cells.size=size)
    (b : Addr) (n cap : Nat) (xs : List Value) (hlo : xs.length=n * size) (holds : ∀ j u,xs[j]? = some u->w.cell? (b.add j)=some u)
    (a : Addr) (m c : Nat) (news : List Value) (hl : news.length=m * size) (hnews : ∀ j u,news[j]? = some u->w.cell? (a.add j)=some u)
    (hg : cap < n+m) (h63 : n+m<=maxLen) (hbytes : (n+m) * bytes<=140737488355328) (hbase : base<=w.heap.size) :
    ∃ v' w',(Builtin.append_ #[t,t] ty #[.slice (some b) n cap,.slice (some a) m c]).run P w = .ok v' w'/\w'.ownsRow base e size v' (n+m) (xs ++ news)/\w.grownBy w' none/\v' ≠ .slice none 0 0:=by
  subst hsize
  subst hby
  have hsmall : n+m<=9223372036854775807:=by simp only [maxLen] at h63;omega
  have hlen : (xs ++ news).length=(n+m) * i.size:=by rw [List.length_append,hlo,hl,Nat.add_mul]
  have hr:=run_append_grow (P:=P) w t ty e i z ht hi hz b n cap xs hlo holds a m c news hl hnews hg (by omega) (growslice_fits hg hbytes);have hge:=grownCap_ge w (n+m) cap e;have hcm : grownCap w (n+m) cap e<=maxLen:=grownCap_le_maxLen w (n+m) cap e h63;refine ⟨_,_,hr,⟨hlen,.inr ⟨w.heap.size,_,_,rfl,hbase,heap_alloc_new w.drew _,hge,hcm,?_,?_⟩⟩,⟨rfl,rfl,rfl,by simp,fun k hk _=>Below.heap_alloc w.drew _ k hk⟩,by simp⟩
  · simp only [Array.size_append,List.size_toArray,size_zeroCells,hzs,hlo,hl,<- Nat.add_mul]
    congr 1
    omega
  · simp only [Array.toList_append,List.append_assoc]
    rw [<- List.append_assoc,<- hlen];exact List.take_left
theorem zhu {P : Program} {w : World} {ops : Array Oper} {rest : List Oper} {o : Oper} {a : Act} {Q : Exit->Act->World->Prop} (hgd : o.guard=none) (s x : Operand) (t : TypeId)
    (ho : o.op = .call { callee:=.builtin .append,args:=#[s,x],argTypes:=#[t,t] })
    (base : Nat) (e : TypeId) (i : TypeInfo) (z : Value) (size bytes : Nat) (ht : P.underlying t=some (.slice e)) (hi : P.info? e=some i) (hz : i.zero=some z)
    (hsize : i.size=size) (hby : i.bytes=bytes) (hzs : z.cells.size=size)
    (b : Addr) (n cap : Nat) (xs : List Value) (hs : a.eval s = .slice (some b) n cap) (hlo : xs.length=n * size) (holds : ∀ j u,xs[j]? = some u->w.cell? (b.add j)=some u)
    (ad : Addr) (m c : Nat) (news : List Value) (hx : a.eval x = .slice (some ad) m c) (hl : news.length=m * size) (hnews : ∀ j u,news[j]? = some u->w.cell? (ad.add j)=some u)
    (hg : cap < n+m) (h63 : n+m<=maxLen) (hbytes : (n+m) * bytes<=140737488355328) (hbase : base<=w.heap.size)
    (h : ∀ v' w',w'.ownsRow base e size v' (n+m) (xs ++ news)->w.grownBy w' none->v' ≠ .slice none 0 0->wpList P ops Q rest (a.put o.dst v') w') : wpList P ops Q (o :: rest) a w :=
  wpList_plain hgd fun K hK=>by
    obtain ⟨v',w',hr,h2,h3,h4⟩:=zge (P:=P) w base t o.type e i z size bytes ht hi hz hsize hby hzs b n cap xs hlo holds ad m c news hl hnews hg h63 hbytes hbase;have hKK:=hK _ _ (h v' w' h2 h3 h4);unfold Oper.wp execOp;simp only [ho,resolve,invoke,builtin,Sem.run_bind,Sem.run_pure,Result.andThen_ok,List.map_toArray,List.map_cons,List.map_nil,hs,hx,hr];exact hKK
theorem Reads.grown {B : Nat} {w w' : World} {row : Option Nat} {v : Value} {xs : List Value} (h : Reads B w v xs) (hg : w.grownBy w' row) (hB : B<=w.heap.size) (hr : ∀ k,row=some k->B<=k) : Reads B w' v xs :=
  h.below ((Below.refl B w).grown hg hB hr)
theorem Reads.len {B : Nat} {w : World} {v : Value} {xs : List Value} (h : Reads B w v xs) : xs.length<=maxLen:=by
  obtain ⟨_,_,_,h,_⟩:=h;exact h
theorem Reads.none (B : Nat) (w : World) : Reads B w (.slice none 0 0) []:=⟨Option.none,0,rfl,Nat.zero_le _,fun j u hj=>by simp at hj,Nat.le_refl _⟩
theorem zes (w : World) (base : Nat) (e : TypeId) (size : Nat) : w.ownsRow base e size (.slice none 0 0) 0 []:=World.ownsRow_nil w base e size
structure Only (S : Nat->Prop) (w w' : World) : Prop where
  os : w'.os=w.os
  tape : w'.tape=w.tape
  output : w'.output=w.output
  size : w.heap.size<=w'.heap.size
  block : ∀ k,k < w.heap.size->¬ S k->w'.heap[k]? = w.heap[k]?
theorem Only.refl (S : Nat->Prop) (w : World) : Only S w w:=⟨rfl,rfl,rfl,Nat.le_refl _,fun _ _ _=>rfl⟩
theorem Only.trans {S : Nat->Prop} {a b d : World} (h : Only S a b) (k : Only S b d) : Only S a d :=
  ⟨k.os.trans h.os,k.tape.trans h.tape,k.output.trans h.output,Nat.le_trans h.size k.size,fun i hi hc=>(k.block i (Nat.lt_of_lt_of_le hi h.size) hc).trans (h.block i hi hc)⟩
theorem Only.below {S : Nat->Prop} {a w w' : World} (h : Only S a w) (k : Below w.heap.size w w') : Only S a w' :=
  ⟨k.os.trans h.os,k.tape.trans h.tape,k.output.trans h.output,Nat.le_trans h.size k.size,fun i hi hc=>(k.block i (Nat.lt_of_lt_of_le hi h.size)).trans (h.block i hi hc)⟩
theorem Only.setCell {S : Nat->Prop} {a w : World} (h : Only S a w) (p : Addr) (hp : S p.block) (u : Value) : Only S a (w.setCell p u) :=
  ⟨h.os,h.tape,h.output,by simpa [World.setCell] using h.size,fun i hi hc=>(Below.heap_setCell w p u i (fun e=>hc (by rw [e];exact hp))).trans (h.block i hi hc)⟩
theorem Only.toBelow {S : Nat->Prop} {B : Nat} {w w' : World} (h : Only S w w') (hB : B<=w.heap.size) (hS : ∀ k,S k->B<=k) : Below B w w' :=
  ⟨h.os,h.tape,h.output,h.size,fun k hk=>h.block k (by omega) (fun hs=>by have:=hS k hs;omega)⟩
theorem Only.mono {S S' : Nat->Prop} {w w' : World} (h : Only S w w') (hS : ∀ k,S k->S' k) : Only S' w w':=⟨h.os,h.tape,h.output,h.size,fun k hk hn=>h.block k hk (fun hs=>hn (hS k hs))⟩
theorem za4 {w : World} {base : Nat} {e : TypeId} {size : Nat} {v : Value} {n : Nat} {xs : List Value} (h : w.ownsRow base e size v n xs) : ∃ o cap,v = .slice o n cap:=by
  rcases h.2 with ⟨rfl,rfl⟩ | ⟨g,cap,cur,rfl,_⟩
  · exact ⟨_,_,rfl⟩
  · exact ⟨_,_,rfl⟩
theorem za2 {w : World} {b : Nat} {o : Obj} (h : w.heap[b]? = some o) : b < w.heap.size:=(Array.getElem?_eq_some_iff.1 h).1
theorem zbd {S : Nat->Prop} {w w' : World} {base : Nat} {e : TypeId} {size : Nat} {v : Value} {n : Nat} {xs : List Value} (h : w.ownsRow base e size v n xs) (k : Only S w w') (hv : ∀ g,v.ownBlock=some g->¬ S g) : w'.ownsRow base e size v n xs:=by
  obtain ⟨h1,h2⟩:=h;refine ⟨h1,?_⟩
  rcases h2 with h2 | ⟨g,cap,cur,rfl,hg,hh,r⟩
  · exact Or.inl h2
  · exact Or.inr ⟨g,cap,cur,rfl,hg,by rw [k.block g (za2 hh) (hv g rfl)];exact hh,r⟩
theorem zaa {w : World} {base : Nat} {e : TypeId} {size : Nat} {v : Value} {n : Nat} {xs : List Value} {b : Nat} {cs : Array Value} {t : TypeId} (h : w.ownsRow base e size v n xs) (k : w.heap[b]? = some (.cells cs t (0,0))) (ht : t ≠ e) : v.ownBlock ≠ some b:=by
  intro hv
  rcases h.2 with ⟨rfl,_⟩ | ⟨g,cap,cur,rfl,hg,hh,r⟩
  · cases hv
  · simp [Value.ownBlock] at hv
    subst hv;rw [k] at hh;simp at hh;exact ht hh.2
structure Rng (lo hi : Nat) (w w' : World) : Prop where
  os : w'.os=w.os
  tape : w'.tape=w.tape
  output : w'.output=w.output
  size : w.heap.size<=w'.heap.size
  block : ∀ k,k < w.heap.size->(k < lo\/hi<=k)->w'.heap[k]? = w.heap[k]?
theorem Rng.refl (lo hi : Nat) (w : World) : Rng lo hi w w:=⟨rfl,rfl,rfl,Nat.le_refl _,fun _ _ _=>rfl⟩
theorem Rng.trans {lo hi : Nat} {a b d : World} (h : Rng lo hi a b) (k : Rng lo hi b d) : Rng lo hi a d :=
  ⟨k.os.trans h.os,k.tape.trans h.tape,k.output.trans h.output,Nat.le_trans h.size k.size,fun i hi hc=>(k.block i (Nat.lt_of_lt_of_le hi h.size) hc).trans (h.block i hi hc)⟩
theorem Rng.ofBelow {lo hi : Nat} {w w' : World} (k : Below w.heap.size w w') : Rng lo hi w w':=⟨k.os,k.tape,k.output,k.size,fun i hi _=>k.block i hi⟩
theorem Rng.toBelow {lo hi B : Nat} {w w' : World} (h : Rng lo hi w w') (hB : B<=w.heap.size) (hl : B<=lo) : Below B w w' :=
  ⟨h.os,h.tape,h.output,h.size,fun k hk=>h.block k (by omega) (.inl (by omega))⟩
theorem zh7 {lo hi : Nat} {w w' : World} {base : Nat} {e : TypeId} {size : Nat} {v : Value} {n : Nat} {xs : List Value} (h : w.ownsRow base e size v n xs) (k : Rng lo hi w w') (hb : hi<=base) : w'.ownsRow base e size v n xs:=by
  obtain ⟨h1,h2⟩:=h;refine ⟨h1,?_⟩
  rcases h2 with h2 | ⟨g,cap,cur,rfl,hg,hh,r⟩
  · exact Or.inl h2
  · exact Or.inr ⟨g,cap,cur,rfl,hg,by rw [k.block g (za2 hh) (.inr (by omega))];exact hh,r⟩
theorem zai {w w' : World} {base : Nat} {e : TypeId} {size : Nat} {v : Value} {n : Nat} {xs : List Value} (h : w.ownsRow base e size v n xs) (k : ∀ g,g < w.heap.size->v.ownBlock=some g->w'.heap[g]? = w.heap[g]?) : w'.ownsRow base e size v n xs:=by
  obtain ⟨h1,h2⟩:=h;refine ⟨h1,?_⟩
  rcases h2 with h2 | ⟨g,cap,cur,rfl,hg,hh,r⟩
  · exact Or.inl h2
  · exact Or.inr ⟨g,cap,cur,rfl,hg,by rw [k g (za2 hh) rfl];exact hh,r⟩
theorem zb4 (w : World) (a : Array Value) (T : TypeId) : ∃ W0,W0=w.alloc (.cells a T)/\W0.heap[w.heap.size]? = some (.cells a T (0,0))/\Below w.heap.size w W0/\W0.heap.size=w.heap.size+1 :=
  ⟨_,rfl,heap_alloc_new w _,za3 (Below.refl _ _),by simp⟩
theorem zc7 (w : World) (a b : Array Value) (T U : TypeId) : ∃ W0,W0=(w.alloc (.cells a T)).alloc (.cells b U)/\W0.heap[w.heap.size]? = some (.cells a T (0,0))/\W0.heap[w.heap.size+1]? = some (.cells b U (0,0))/\Below w.heap.size w W0/\W0.heap.size=w.heap.size+1+1:=by
  obtain ⟨W1,h1,k1,d1,s1⟩:=zb4 w a T;have k2:=heap_alloc_new W1 (.cells b U);rw [s1] at k2;rw [<- h1];exact ⟨_,rfl,(Below.heap_alloc _ _ _ (by omega)).trans k1,k2,za3 d1,by simp [s1]⟩
theorem zg0 (w : World) (a b c : Array Value) (T U V : TypeId) : ∃ W0,W0=((w.alloc (.cells a T)).alloc (.cells b U)).alloc (.cells c V)/\W0.heap[w.heap.size]? = some (.cells a T (0,0))/\W0.heap[w.heap.size+1]? = some (.cells b U (0,0))/\W0.heap[w.heap.size+1+1]? = some (.cells c V (0,0))/\Below w.heap.size w W0/\W0.heap.size=w.heap.size+1+1+1:=by
  obtain ⟨W1,h1,k1,k1',d1,s1⟩:=zc7 w a b T U;have k2:=heap_alloc_new W1 (.cells c V);rw [s1] at k2;rw [<- h1];exact ⟨_,rfl,(Below.heap_alloc _ _ _ (by omega)).trans k1,(Below.heap_alloc _ _ _ (by omega)).trans k1',k2,za3 d1,by simp [s1]⟩
end Go.Proofs.YtfkkapdofjhgpaaGreatDoor
namespace Go.Proofs.YtfkkapdofjhgpaaGreatDoor
open Go.RowKit Go.Extern.Stop Go.Stop Go.Extern
set_option linter.unusedVariables false
set_option maxRecDepth 100000
theorem Tryz.isTypeOf (v : Value) (w : World) : (Extern.ReflectliteType.typeOf #[.iface 334 v]).run Tryz.prog w = .ok (.iface 246 (.agg #[.pointer (some ⟨13,334,none⟩)])) w:=by kernel_rfl
theorem Tryz.callComparable (w : World) : (callFunc 331 #[.agg #[.pointer (some ⟨13,334,none⟩)]]).run Tryz.prog w = .ok (.value (.bool true)) w:=by
  rw [@run_callFunc_extern Tryz.prog 331 _ (Extern.ReflectliteType.method fun t=>do Extern.Rtype.noPackHeld "Comparable" t;pure (.bool (<- typeInfo t).comparable)) Tryz.func331 (by kernel_rfl) (by kernel_rfl) (by kernel_rfl) (by kernel_rfl)]
  kernel_rfl
theorem Tryz.isMethodComparable (v : Value) (w : World) : (Go.method 466 246 v "Comparable").run Tryz.prog w = .ok (331,v) w:=by kernel_rfl
theorem Tryz.isComp : (Tryz.prog.info? 334).map (·.comparable)=some true:=by kernel_rfl
theorem Tryz.isSize : (Tryz.prog.info? 354).map (·.size)=some 1:=by kernel_rfl
theorem Tryz.noIsE (v : Value) (xT : TypeId) (w : World) : (Instr.typeAssert (.iface 334 v) xT 248 true).run Tryz.prog w = .ok (.tuple #[.nilIface,.bool false]) w:=run_typeAssert_lacksB Tryz.underlying248 (by kernel_rfl) (by kernel_rfl) v xT w
theorem Tryz.noUnwrapE (v : Value) (xT : TypeId) (w : World) : (Instr.typeAssert (.iface 334 v) xT 251 true).run Tryz.prog w = .ok (.tuple #[.nilIface,.bool false]) w:=run_typeAssert_lacksB Tryz.underlying251 (by kernel_rfl) (by kernel_rfl) v xT w
theorem Tryz.noUnwrapsE (v : Value) (xT : TypeId) (w : World) : (Instr.typeAssert (.iface 334 v) xT 253 true).run Tryz.prog w = .ok (.tuple #[.nilIface,.bool false]) w:=run_typeAssert_lacksB Tryz.underlying253 (by kernel_rfl) (by kernel_rfl) v xT w
theorem Tryz.noIsW (v : Value) (xT : TypeId) (w : World) : (Instr.typeAssert (.iface 218 v) xT 248 true).run Tryz.prog w = .ok (.tuple #[.nilIface,.bool false]) w:=run_typeAssert_lacksB Tryz.underlying248 (by kernel_rfl) (by kernel_rfl) v xT w
theorem Tryz.hasUnwrapW (v : Value) (xT : TypeId) (w : World) : (Instr.typeAssert (.iface 218 v) xT 251 true).run Tryz.prog w = .ok (.tuple #[.iface 218 v,.bool true]) w:=run_typeAssert_hasB Tryz.underlying251 (by kernel_rfl) v xT w
theorem Tryz.methodUnwrap (v : Value) (w : World) : (Go.method 466 218 v "Unwrap").run Tryz.prog w = .ok (328,v) w:=by kernel_rfl
theorem zkp (c : Int) (t : TypeId) (v : Value) (w : World) :
    Calls Tryz.prog 328 #[.agg #[.int .i64 c,.iface t v]] w fun e w'=>e = .returned (.iface t v)/\w'=w.alloc (.cells #[.int .i64 c,.iface t v] 218):=by
  go_enter Tryz.func328,Tryz.ntmps328
  go_wp2
  go_ret;exact ⟨rfl,rfl⟩
theorem zop (c : Int) (b : Addr) (w : World) :
    Calls Tryz.prog 186 #[.iface 218 (.agg #[.int .i64 c,.iface 334 (.pointer (some b))]),.iface 334 (.pointer (some b))] w fun e w'=>e = .returned (.bool true)/\Below w.heap.size w w':=by
  obtain ⟨i,hi,hcmp⟩:=Option.map_eq_some_iff.1 Tryz.isComp;obtain ⟨j,hj,hjs⟩:=Option.map_eq_some_iff.1 Tryz.isSize;have h8:=@run_callFunc_extern Tryz.prog 209 _ Extern.ReflectliteType.typeOf Tryz.func209 (by kernel_rfl) (by kernel_rfl) (by kernel_rfl) (by kernel_rfl);have tT:=Tryz.isTypeOf;have cT:=Tryz.callComparable;have mR:=Tryz.isMethodComparable;have nE:=Tryz.noIsE;have uE:=Tryz.noUnwrapE;have vE:=Tryz.noUnwrapsE;have nW:=Tryz.noIsW;have uW:=Tryz.hasUnwrapW;have mU:=Tryz.methodUnwrap;have heq : ∀ w : World,_:=fun w=>run_eql_iface_ptr_same (P:=Tryz.prog) w b Tryz.underlying185 Tryz.underlying334 hi hcmp hj
  have hty:=run_eql_iface_types (P:=Tryz.prog) 218 334 (.agg #[.int .i64 c,.iface 334 (.pointer (some b))]) (.pointer (some b)) Tryz.underlying185 (by decide)
  go_enter Tryz.func186,Tryz.ntmps186
  go_wp2
  refine wp_loop_rounds 2 ?_;rw [rounds_succ]
  go_wp2_with (go_at_call 328;refine (zkp c _ _ _).mono ?_;rintro e w' ⟨rfl,rfl⟩)
  rw [rounds_succ]
  go_wp2
  go_ret;exact ⟨rfl,za3 (Below.refl _ _)⟩
theorem znu (c : Int) (a b : Addr) (ca cb : Array Value) (ta tb : TypeId) (w : World) (hne : a ≠ b) (ha : w.heap[a.block]? = some (.cells ca ta (0,0))) (hb : w.heap[b.block]? = some (.cells cb tb (0,0))) :
    Calls Tryz.prog 186 #[.iface 218 (.agg #[.int .i64 c,.iface 334 (.pointer (some a))]),.iface 334 (.pointer (some b))] w fun e w'=>e = .returned (.bool false)/\Below w.heap.size w w':=by
  obtain ⟨i,hi,hcmp⟩:=Option.map_eq_some_iff.1 Tryz.isComp;obtain ⟨j,hj,hjs⟩:=Option.map_eq_some_iff.1 Tryz.isSize;have h8:=@run_callFunc_extern Tryz.prog 209 _ Extern.ReflectliteType.typeOf Tryz.func209 (by kernel_rfl) (by kernel_rfl) (by kernel_rfl) (by kernel_rfl);have tT:=Tryz.isTypeOf;have cT:=Tryz.callComparable;have mR:=Tryz.isMethodComparable;have nE:=Tryz.noIsE;have uE:=Tryz.noUnwrapE;have vE:=Tryz.noUnwrapsE;have nW:=Tryz.noIsW;have uW:=Tryz.hasUnwrapW;have mU:=Tryz.methodUnwrap;have bw : Below w.heap.size w (w.alloc (.cells #[.int .i64 c,.iface 334 (.pointer (some a))] 218)):=za3 (Below.refl _ _);have heq:=run_eql_iface_ptr_other (P:=Tryz.prog) (w.alloc (.cells #[.int .i64 c,.iface 334 (.pointer (some a))] 218)) Tryz.underlying185 Tryz.underlying334 hi hcmp hj (by rw [hjs];decide) hne ((bw.block _ (za2 ha)).trans ha) ((bw.block _ (za2 hb)).trans hb);have hty:=run_eql_iface_types (P:=Tryz.prog) 218 334 (.agg #[.int .i64 c,.iface 334 (.pointer (some a))]) (.pointer (some b)) Tryz.underlying185 (by decide)
  go_enter Tryz.func186,Tryz.ntmps186
  go_wp2
  refine wp_loop_rounds 2 ?_;rw [rounds_succ]
  go_wp2_with (go_at_call 328;refine (zkp c _ _ _).mono ?_;rintro e w' ⟨rfl,rfl⟩)
  rw [rounds_succ]
  go_wp2
  go_ret;exact ⟨rfl,za3 (Below.refl _ _)⟩
theorem Tryz.asValueP (t : Addr) (w : World) : (callFunc 242 #[.iface 226 (.pointer (some t))]).run Tryz.prog w = .ok (.value (.agg #[.pointer (some ⟨13,226,none⟩),.pointer (some ⟨w.heap.size,0,none⟩),.int .u64 150])) (w.alloc (.cells #[.pointer (some t)] 226)):=by kernel_rfl
theorem Tryz.asValueS (c y : Value) (hc : c.oneCell'=true) (hy : y.oneCell'=true) (w : World) : (callFunc 242 #[.iface 218 (.agg #[c,y])]).run Tryz.prog w = .ok (.value (.agg #[.pointer (some ⟨13,218,none⟩),.pointer (some ⟨w.heap.size,0,none⟩),.int .u64 153])) (w.alloc (.cells #[c,y] 218)):=by kernel_rfl
theorem Tryz.asTypeP (a : Addr) (w : World) : (callFunc 243 #[.agg #[.pointer (some ⟨13,226,none⟩),.pointer (some a),.int .u64 150]]).run Tryz.prog w = .ok (.value (.iface 246 (.agg #[.pointer (some ⟨13,226,none⟩)]))) w:=by kernel_rfl
theorem Tryz.methodKind (h : Value) (w : World) : (Go.method 466 246 (.agg #[h]) "Kind").run Tryz.prog w = .ok (320,h) w:=by kernel_rfl
theorem Tryz.methodElem (h : Value) (w : World) : (Go.method 466 246 (.agg #[h]) "Elem").run Tryz.prog w = .ok (332,.agg #[h]) w:=by kernel_rfl
theorem Tryz.methodImplements (h : Value) (w : World) : (Go.method 466 246 (.agg #[h]) "Implements").run Tryz.prog w = .ok (333,.agg #[h]) w:=by kernel_rfl
theorem Tryz.methodAssignableTo (h : Value) (w : World) : (Go.method 466 246 (.agg #[h]) "AssignableTo").run Tryz.prog w = .ok (330,.agg #[h]) w:=by kernel_rfl
theorem Tryz.kindP (w : World) : (callFunc 320 #[.pointer (some ⟨13,226,none⟩)]).run Tryz.prog w = .ok (.value (.int .u8 22)) w:=by kernel_rfl
theorem Tryz.kindS (w : World) : (callFunc 320 #[.pointer (some ⟨13,218,none⟩)]).run Tryz.prog w = .ok (.value (.int .u8 25)) w:=by kernel_rfl
theorem Tryz.elemP (w : World) : (callFunc 332 #[.agg #[.pointer (some ⟨13,226,none⟩)]]).run Tryz.prog w = .ok (.value (.iface 246 (.agg #[.pointer (some ⟨13,218,none⟩)]))) w:=by kernel_rfl
theorem Tryz.implementsS (w : World) : (callFunc 333 #[.agg #[.pointer (some ⟨13,218,none⟩)],.iface 246 (.agg #[.pointer (some ⟨13,185,none⟩)])]).run Tryz.prog w = .ok (.value (.bool true)) w:=by kernel_rfl
theorem Tryz.typeOfS (v : Value) (w : World) : (callFunc 209 #[.iface 218 v]).run Tryz.prog w = .ok (.value (.iface 246 (.agg #[.pointer (some ⟨13,218,none⟩)]))) w:=by kernel_rfl
theorem Tryz.assignableS (w : World) : (callFunc 330 #[.agg #[.pointer (some ⟨13,218,none⟩)],.iface 246 (.agg #[.pointer (some ⟨13,218,none⟩)])]).run Tryz.prog w = .ok (.value (.bool true)) w:=by kernel_rfl
theorem rlm (z : Sem Value) (f : TypeId->Addr->Nat->Nat->Sem Value) (v : Value) :
    ReflectliteValue.method z f #[v]=(do match <- ReflectliteValue.parts v with | none=>z | some (t,a,fl)=>f t a fl (fl % 32)):=rfl
theorem Tryz.partsP (a : Addr) (w : World) : (ReflectliteValue.parts (.agg #[.pointer (some ⟨13,226,none⟩),.pointer (some a),.int .u64 150])).run Tryz.prog w = .ok (some (226,a,150)) w:=by kernel_rfl
theorem Tryz.isNilP (a p : Addr) (W : World) (ha : W.cell? a=some (.pointer (some p))) :
    (callFunc 244 #[.agg #[.pointer (some ⟨13,226,none⟩),.pointer (some a),.int .u64 150]]).run Tryz.prog W = .ok (.value (.bool false)) W:=by
  rw [@run_callFunc_extern Tryz.prog 244 _ (ReflectliteValue.method (ReflectliteValue.valueError "reflectlite.Value.IsNil" 0) ReflectliteValue.isNil) Tryz.func244 (by kernel_rfl) (by kernel_rfl) (by kernel_rfl) (by kernel_rfl),rlm];simp only [Sem.run_bind,Tryz.partsP,Result.andThen];simp [ReflectliteValue.isNil,loadVar,isAgg,underlying,Tryz.underlying226,ha,Result.andThen]
theorem Tryz.elemOfP (w : World) : (Rtype.elem? 226).run Tryz.prog w = .ok (some 218) w:=by kernel_rfl
theorem Tryz.mkS (p : Addr) (w : World) : (ReflectliteValue.mk 218 p ReflectliteValue.flagAddr).run Tryz.prog w = .ok (.agg #[.pointer (some ⟨13,218,none⟩),.pointer (some p),.int .u64 409]) w:=by kernel_rfl
theorem Tryz.elemVP (a p : Addr) (W : World) (ha : W.cell? a=some (.pointer (some p))) :
    (callFunc 269 #[.agg #[.pointer (some ⟨13,226,none⟩),.pointer (some a),.int .u64 150]]).run Tryz.prog W = .ok (.value (.agg #[.pointer (some ⟨13,218,none⟩),.pointer (some p),.int .u64 409])) W:=by
  rw [@run_callFunc_extern Tryz.prog 269 _ (ReflectliteValue.method (ReflectliteValue.valueError "reflectlite.Value.Elem" 0) ReflectliteValue.elem) Tryz.func269 (by kernel_rfl) (by kernel_rfl) (by kernel_rfl) (by kernel_rfl),rlm];simp only [Sem.run_bind,Tryz.partsP,Result.andThen];simp [ReflectliteValue.elem,loadVar,isAgg,underlying,Tryz.underlying226,ha,Result.andThen,Tryz.elemOfP,Tryz.mkS]
theorem kb0 {w w' : World} {c : Nat} {o : Obj} (b : Below w.heap.size w w') (k : w.heap[c]? = some o) : w'.heap[c]? = some o:=(b.block _ (za2 k)).trans k
end Go.Proofs.YtfkkapdofjhgpaaGreatDoor
