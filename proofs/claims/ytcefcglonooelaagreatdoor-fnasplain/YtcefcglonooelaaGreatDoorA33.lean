import Derived.Test.YtcefcglonooelaaGreatDoorA01
import Derived.Test.YtcefcglonooelaaGreatDoorA02
import Derived.Test.YtcefcglonooelaaGreatDoorA04
import Derived.Test.YtcefcglonooelaaGreatDoorA06
import Derived.Test.YtcefcglonooelaaGreatDoorA08
import Derived.Test.YtcefcglonooelaaGreatDoorA09
import Derived.Test.YtcefcglonooelaaGreatDoorA28
namespace Go.Proofs.YtcefcglonooelaaGreatDoor
open Go.RowKit
set_option linter.unusedVariables false
set_option maxRecDepth 100000
def intC (x : Int) : List Value := [.int .i64 x]
theorem intC_len (x : Int) : (intC x).length = 1 := rfl
theorem flat_intC (xs : List Int) : xs.flatMap intC = xs.map (Value.int .i64) := by
  induction xs with
  | nil => rfl
  | cons x t ih => rw [List.flatMap_cons,ih];rfl
theorem readsK_to {B : Nat} {w : World} {v : Value} {xs : List Int} (h : ReadsR 1 intC B w v xs) : Reads B w v (xs.map (Value.int .i64)) := by
  obtain ⟨o,cap,hv,hm,hc,hr⟩ := h;refine ⟨o,cap,by rw [List.length_map];exact hv,by rw [List.length_map];exact hm,fun i u hi => ?_,by rw [List.length_map];exact hr⟩;rw [List.getElem?_map] at hi
  cases hx : xs[i]? with
  | none => rw [hx] at hi;cases hi
  | some x =>
    rw [hx] at hi;simp only [Option.map_some,Option.some.injEq] at hi;subst hi;obtain ⟨g,off,e,hg,hc'⟩ := hc i x hx;exact ⟨g,off,e,hg,by simpa using hc' 0 _ rfl⟩
structure Pk where
  nm : ByteArray
  sz : Int
  m : Value
  rs : List Int
  fx : Bool
  ep : Int
def pkC (b : Pk) : List Value := [.string b.nm,.int .i64 b.sz,b.m,.bool b.fx,.int .i64 b.ep]
theorem pkC_len (b : Pk) : (pkC b).length = 5 := rfl
structure ReadsK (B : Nat) (w : World) (v : Value) (bs : List Pk) : Prop where
  row : ReadsR 5 pkC B w v bs
  maps : ∀ b ∈ bs,ReadsR 1 intC B w b.m b.rs
theorem ReadsK.below {B : Nat} {w w' : World} {v : Value} {bs : List Pk} (h : ReadsK B w v bs) (k : Below B w w') : ReadsK B w' v bs := ⟨h.row.below k,fun b hb => (h.maps b hb).below k⟩
theorem ReadsK.mono {B B' : Nat} {w : World} {v : Value} {bs : List Pk} (h : ReadsK B w v bs) (k : B <= B') : ReadsK B' w v bs := ⟨h.row.mono k,fun b hb => (h.maps b hb).mono k⟩
structure Pv where
  nm : ByteArray
  sz : Int
  vs : List Int
  fx : Bool
  ep : Int
def Pk.pv (b : Pk) : Pv := ⟨b.nm,b.sz,b.rs,b.fx,b.ep⟩
def valuesB (vs : List Int) : Bool := vs.all (fun v => decide (0 <= v) && decide (v <= 999))
def plainOk (nm : ByteArray) (sz : Int) (vs : List Int) (ep : Int) : Bool :=
  valuesB vs && Nums.nameB nm.data.toList && (decide (1 <= sz) && decide (sz <= 16)) && (decide (0 <= ep) && decide (ep <= 1000)) && decide ((vs.length : Int) = sz)
def Pv.ok (p : Pv) : Bool := plainOk p.nm p.sz p.vs p.ep
def plainsOk (bs : List Pv) : Bool := decide (bs.length <= 6) && bs.all Pv.ok && sortedB (bs.map Pv.nm)
theorem plains_no_many {bs : List Pv} (h : 6 < bs.length) : plainsOk bs = false := by
  have h6 : ¬ bs.length <= 6 := by omega
  simp [plainsOk,h6]
theorem values_no {vs : List Int} (i : Nat) (hi : i < vs.length) (h : (decide (0 <= vs[i]) && decide (vs[i] <= 999)) = false) : valuesB vs = false := by
  rw [valuesB,List.all_eq_false];exact ⟨vs[i],List.getElem_mem hi,by rw [h];decide⟩
theorem values_yes {vs : List Int} (h : ∀ (i : Nat) (hi : i < vs.length),(decide (0 <= vs[i]) && decide (vs[i] <= 999)) = true) : valuesB vs = true := by
  rw [valuesB,List.all_eq_true];intro x hx;obtain ⟨j,hj,rfl⟩ := List.getElem_of_mem hx;exact h j hj
def Pv.pb (p : Pv) : Pb := ⟨p.nm,p.sz,[],p.fx,p.ep⟩
def rightVs (p : Pv) : Bool := decide ((p.vs.length : Int) = p.sz) && valuesB p.vs
theorem ok_parts (p : Pv) : p.ok = (p.pb.ok && rightVs p) := by
  have e : p.pb.ok = (Nums.nameB p.nm.data.toList && (decide (1 <= p.sz) && decide (p.sz <= 16)) && (decide (0 <= p.ep) && decide (p.ep <= 1000))) := by
    show bookOk p.nm p.sz [] p.ep = _
    rw [bookOk,show mapOk [] = true from rfl,endsBy_nil,Bool.and_true,Bool.and_true]
  rw [e,Pv.ok,plainOk,rightVs];generalize (decide (1 <= p.sz) && decide (p.sz <= 16)) = x1;generalize (decide (0 <= p.ep) && decide (p.ep <= 1000)) = x2;generalize Nums.nameB p.nm.data.toList = x3;generalize valuesB p.vs = x4;generalize decide ((p.vs.length : Int) = p.sz) = x5;cases x1 <;> cases x2 <;> cases x3 <;> cases x4 <;> cases x5 <;> rfl
theorem plainsOk_by (bs : List Pv) : plainsOk bs = (decide (bs.length <= 6) && ((bs.map Pv.pb).all Pb.ok && sortedB ((bs.map Pv.pb).map Pb.nm)) && bs.all rightVs) := by
  have e1 : bs.all Pv.ok = ((bs.map Pv.pb).all Pb.ok && bs.all rightVs) := by
    induction bs with
    | nil => rfl
    | cons b t ih =>
      simp only [List.all_cons,List.map_cons,ih,ok_parts];cases b.pb.ok <;> cases rightVs b <;> cases ((t.map Pv.pb).all Pb.ok) <;> cases (t.all rightVs) <;> rfl
  have e2 : (bs.map Pv.pb).map Pb.nm = bs.map Pv.nm := by rw [List.map_map];rfl
  rw [plainsOk,e1,e2];generalize decide (bs.length <= 6) = x1;generalize (bs.map Pv.pb).all Pb.ok = x2;generalize bs.all rightVs = x3;generalize sortedB (bs.map Pv.nm) = x4;cases x1 <;> cases x2 <;> cases x3 <;> cases x4 <;> rfl
theorem one_cellK {B : Nat} {w : World} {o : Option Addr} {vs : List Int} (hc : ∀ i x,vs[i]? = some x -> ∃ g off,o = some ⟨g,off,none⟩ /\ g < B /\ ∀ j u,(intC x)[j]? = some u -> w.cell? ⟨g,off + i * 1 + j,none⟩ = some u) (i : Nat) (hi : i < vs.length) :
    ∃ g off,o = some ⟨g,off,none⟩ /\ g < B /\ w.cell? ⟨g,off + i,none⟩ = some (.int .i64 vs[i]) := by
  obtain ⟨g,off,e,hg,hx⟩ := hc i vs[i] (List.getElem?_eq_getElem hi);exact ⟨g,off,e,hg,by simpa using hx 0 _ rfl⟩
end Go.Proofs.YtcefcglonooelaaGreatDoor
namespace Go.Proofs.YtcefcglonooelaaGreatDoor
set_option linter.unusedVariables false
set_option maxRecDepth 100000
def valAt (ps : List Int) (rs : List (Int × Int × Int)) (k : Nat) : Int := if (pages rs).getD k 0 < 0 then 0 else ps.getD ((pages rs).getD k 0).toNat 0
def shownV (ps : List Int) (rs : List (Int × Int × Int)) (n : Nat) : List Int := (List.range n).map (valAt ps rs)
theorem shownV_succ (ps : List Int) (rs : List (Int × Int × Int)) (n : Nat) : shownV ps rs (n + 1) = shownV ps rs n ++ [valAt ps rs n] := by simp [shownV,List.range_succ]
theorem shownV_len (ps : List Int) (rs : List (Int × Int × Int)) (n : Nat) : (shownV ps rs n).length = n := by simp [shownV]
def shownP (ps : List Int) (b : Pb) : Pv := ⟨b.nm,b.sz,shownV ps b.rs b.sz.toNat,b.fx,b.ep⟩
def shownPlain (s : Sf) : List Pv := if shelfOk s = true then s.bs.map (shownP s.ps) else []
theorem shown_parts {s : Sf} (h : ShInv s) (i : Nat) (hi : i < s.bs.length) : mapOk s.bs[i].rs = true /\ (1 <= s.bs[i].sz /\ s.bs[i].sz <= 16) /\ ∀ k,k < 16 -> -1 <= (pages s.bs[i].rs).getD k 0 /\ (pages s.bs[i].rs).getD k 0 < s.ps.length := by
  obtain ⟨-,hs,-,hm,-⟩ := book_parts (h.oks _ (List.getElem_mem hi));refine ⟨hm,hs,fun k hk => ⟨(pages_range _ hm k hk).1,?_⟩⟩;by_cases h0 : 0 <= (pages s.bs[i].rs).getD k 0
  · have hl : k < (pages s.bs[i].rs).length := by rw [pages_length];exact hk
    have e : (pages s.bs[i].rs).getD k 0 = (pages s.bs[i].rs)[k] := by simp [hl]
    have := (h.page i hi _ (by rw [e];exact List.getElem_mem hl) h0).1;have h2 := h.cells.p
    omega
  · have := h.cells.p
    have := h.n1
    omega
end Go.Proofs.YtcefcglonooelaaGreatDoor
namespace Go.Proofs.YtcefcglonooelaaGreatDoor
open Go.RowKit
set_option linter.unusedVariables false
set_option maxRecDepth 100000
def didOp (s : Sf) (o : Oq) : Sf × (Int × Int) := if shelfOk s = true then doOp s o else (⟨[],[],[]⟩,(1,0))
theorem didOp_no {s : Sf} {o : Oq} (h : shelfOk s = false) : didOp s o = (⟨[],[],[]⟩,(1,0)) := by rw [didOp,if_neg (by rw [h];decide)]
theorem didOp_yes {s : Sf} {o : Oq} (h : shelfOk s = true) : didOp s o = doOp s o := by rw [didOp,if_pos h]
theorem did_end {w W : World} {c d : Nat} {x0 x1 x2 x3 x4 : Value} {T U : TypeId} (kc : W.heap[c]? = some (.cells #[x0,x1,x2] T (0,0))) (kd : W.heap[d]? = some (.cells #[x3,x4] U (0,0))) (hcd : ¬ c = d) (hb : w.heap.size <= c /\ w.heap.size <= d) (h0 : Below w.heap.size w W) (y0 y1 y2 y3 y4 : Value) :
    (((((W.setCell ⟨c,0,none⟩ y0).setCell ⟨c,1,none⟩ y1).setCell ⟨c,2,none⟩ y2).setCell ⟨d,0,none⟩ y3).setCell ⟨d,1,none⟩ y4).heap[c]? = some (.cells #[y0,y1,y2] T (0,0)) /\
    (((((W.setCell ⟨c,0,none⟩ y0).setCell ⟨c,1,none⟩ y1).setCell ⟨c,2,none⟩ y2).setCell ⟨d,0,none⟩ y3).setCell ⟨d,1,none⟩ y4).heap[d]? = some (.cells #[y3,y4] U (0,0)) /\
    Below w.heap.size w (((((W.setCell ⟨c,0,none⟩ y0).setCell ⟨c,1,none⟩ y1).setCell ⟨c,2,none⟩ y2).setCell ⟨d,0,none⟩ y3).setCell ⟨d,1,none⟩ y4) := by
  have hdc : d ≠ c := fun e => hcd e.symm
  have e1 := set_at (set_at (set_at kc 0 y0) 1 y1) 2 y2
  have e2 : (((W.setCell ⟨c,0,none⟩ y0).setCell ⟨c,1,none⟩ y1).setCell ⟨c,2,none⟩ y2).heap[d]? = some (.cells #[x3,x4] U (0,0)) :=
    (Below.heap_setCell _ ⟨c,2,none⟩ y2 d hdc).trans ((Below.heap_setCell _ ⟨c,1,none⟩ y1 d hdc).trans ((Below.heap_setCell _ ⟨c,0,none⟩ y0 d hdc).trans kd))
  refine ⟨(Below.heap_setCell _ ⟨d,1,none⟩ y4 c hcd).trans ((Below.heap_setCell _ ⟨d,0,none⟩ y3 c hcd).trans e1),set_at (set_at e2 0 y3) 1 y4,?_⟩;exact bw_set (p := ⟨d,1,none⟩) (bw_set (p := ⟨d,0,none⟩) (bw_set (p := ⟨c,2,none⟩) (bw_set (p := ⟨c,1,none⟩) (bw_set (p := ⟨c,0,none⟩) h0 hb.1 _) hb.1 _) hb.1 _) hb.2 _) hb.2 _
theorem did_end2 {w W : World} {c d : Nat} {x0 x1 x2 x3 x4 : Value} {T U : TypeId} (kc : W.heap[c]? = some (.cells #[x0,x1,x2] T (0,0))) (kd : W.heap[d]? = some (.cells #[x3,x4] U (0,0))) (hcd : ¬ c = d) (hb : w.heap.size <= c /\ w.heap.size <= d) (h0 : Below w.heap.size w W) (y0 y1 y2 y3 y4 : Value) :
    (((((W.setCell ⟨d,0,none⟩ y3).setCell ⟨d,1,none⟩ y4).setCell ⟨c,0,none⟩ y0).setCell ⟨c,1,none⟩ y1).setCell ⟨c,2,none⟩ y2).heap[c]? = some (.cells #[y0,y1,y2] T (0,0)) /\
    (((((W.setCell ⟨d,0,none⟩ y3).setCell ⟨d,1,none⟩ y4).setCell ⟨c,0,none⟩ y0).setCell ⟨c,1,none⟩ y1).setCell ⟨c,2,none⟩ y2).heap[d]? = some (.cells #[y3,y4] U (0,0)) /\
    Below w.heap.size w (((((W.setCell ⟨d,0,none⟩ y3).setCell ⟨d,1,none⟩ y4).setCell ⟨c,0,none⟩ y0).setCell ⟨c,1,none⟩ y1).setCell ⟨c,2,none⟩ y2) := by
  have hdc : d ≠ c := fun e => hcd e.symm
  have e2 := set_at (set_at kd 0 y3) 1 y4
  have e1 : ((W.setCell ⟨d,0,none⟩ y3).setCell ⟨d,1,none⟩ y4).heap[c]? = some (.cells #[x0,x1,x2] T (0,0)) :=
    (Below.heap_setCell _ ⟨d,1,none⟩ y4 c hcd).trans ((Below.heap_setCell _ ⟨d,0,none⟩ y3 c hcd).trans kc)
  refine ⟨set_at (set_at (set_at e1 0 y0) 1 y1) 2 y2,(Below.heap_setCell _ ⟨c,2,none⟩ y2 d hdc).trans ((Below.heap_setCell _ ⟨c,1,none⟩ y1 d hdc).trans ((Below.heap_setCell _ ⟨c,0,none⟩ y0 d hdc).trans e2)),?_⟩;exact bw_set (p := ⟨c,2,none⟩) (bw_set (p := ⟨c,1,none⟩) (bw_set (p := ⟨c,0,none⟩) (bw_set (p := ⟨d,1,none⟩) (bw_set (p := ⟨d,0,none⟩) h0 hb.2 _) hb.2 _) hb.1 _) hb.1 _) hb.1 _
end Go.Proofs.YtcefcglonooelaaGreatDoor
namespace Go.Proofs.YtcefcglonooelaaGreatDoor
set_option linter.unusedVariables false
set_option maxRecDepth 100000
def Pv.zero : Pv := ⟨ByteArray.empty,0,[],false,0⟩
def plainAt (l : List Pv) (i : Nat) : Pv := l.getD i Pv.zero
def putV (l : List Pv) (p : Pv) : List Pv := l.take (insertAt (l.map Pv.pb) p.nm) ++ [p] ++ l.drop (insertAt (l.map Pv.pb) p.nm)
def doOne (l : List Pv) (o : Oq) (i : Nat) (p : Pv) : List Pv × (Int × Int) :=
  if o.k = 9 then (l,(0,p.vs.getD o.at_.toNat 0))
  else if o.k = 8 then (l.set i { p with ep := p.ep + 1 },(0,p.ep + 1))
  else if o.k = 7 then (l.set i { p with sz := o.va,vs := (p.vs ++ List.replicate 16 0).take o.va.toNat },(0,0))
  else if o.k = 3 then (l.set i { p with vs := p.vs.set o.at_.toNat 0 },(0,0))
  else (l.set i { p with vs := p.vs.set o.at_.toNat o.va },(0,0))
def doPlain (l : List Pv) (o : Oq) (told : Int) : List Pv × (Int × Int) :=
  if opOk o = false then (l,(1,0))
  else if refused (l.map Pv.pb) o ≠ 0 then (l,(refused (l.map Pv.pb) o,0))
  else if o.k = 2 /\ told = 9 then (l,(9,0))
  else if o.k = 1 then (putV l ⟨o.nm,o.va,List.replicate o.va.toNat 0,false,0⟩,(0,0))
  else if o.k = 6 then (l.take (findP (l.map Pv.pb) o.nm).toNat ++ l.drop ((findP (l.map Pv.pb) o.nm).toNat + 1),(0,0))
  else if kOther o.k = true then (putV l ⟨o.ot,(plainAt l (findP (l.map Pv.pb) o.nm).toNat).sz,(plainAt l (findP (l.map Pv.pb) o.nm).toNat).vs,decide (o.k = 4),0⟩,(0,0))
  else doOne l o (findP (l.map Pv.pb) o.nm).toNat (plainAt l (findP (l.map Pv.pb) o.nm).toNat)
def didPlain (l : List Pv) (o : Oq) (told : Int) : List Pv × (Int × Int) := if plainsOk l = true then doPlain l o told else ([],(1,0))
def Pb.bare (b : Pb) : Pb := ⟨b.nm,b.sz,[],b.fx,b.ep⟩
theorem bare_find (bs : List Pb) (n : ByteArray) : findP (bs.map Pb.bare) n = findP bs n := by
  unfold findP;rw [List.map_map]
  rfl
theorem bare_book (bs : List Pb) (i : Int) : bookAt (bs.map Pb.bare) i = (bookAt bs i).bare := by
  unfold bookAt;rw [List.getD_eq_getElem?_getD,List.getD_eq_getElem?_getD,List.getElem?_map];cases bs[i.toNat]? <;> rfl
theorem bare_refused (bs : List Pb) (o : Oq) : refused (bs.map Pb.bare) o = refused bs o := by
  unfold refused;rw [bare_find,bare_find,bare_book,List.length_map]
  rfl
theorem bare_insert (bs : List Pb) (n : ByteArray) : insertAt (bs.map Pb.bare) n = insertAt bs n := by
  unfold insertAt
  induction bs with
  | nil => rfl
  | cons b bs ih =>
    rw [List.map_cons,List.takeWhile_cons,List.takeWhile_cons]
    show (if ltB b.nm n = true then _ else _ : List Pb).length = _
    cases h : ltB b.nm n
    · simp
    · simp only [if_true,List.length_cons]
      rw [ih]
theorem shown_bare (ps : List Int) (bs : List Pb) : (bs.map (shownP ps)).map Pv.pb = bs.map Pb.bare := by
  rw [List.map_map]
  rfl
theorem shown_refused (ps : List Int) (bs : List Pb) (o : Oq) : refused ((bs.map (shownP ps)).map Pv.pb) o = refused bs o := by rw [shown_bare,bare_refused]
theorem shown_find (ps : List Int) (bs : List Pb) (n : ByteArray) : findP ((bs.map (shownP ps)).map Pv.pb) n = findP bs n := by rw [shown_bare,bare_find]
theorem shown_put (ps : List Int) (bs : List Pb) (b : Pb) : putV (bs.map (shownP ps)) (shownP ps b) = (insertP bs b).map (shownP ps) := by
  unfold putV insertP;rw [shown_bare,bare_insert]
  show List.take (insertAt bs b.nm) _ ++ _ ++ List.drop (insertAt bs b.nm) _ = _
  rw [List.map_append,List.map_append,List.map_take,List.map_drop]
  rfl
theorem shown_at (ps : List Int) (bs : List Pb) (i : Nat) (hi : i < bs.length) : plainAt (bs.map (shownP ps)) i = shownP ps bs[i] := by
  simp [plainAt,List.getD_eq_getElem?_getD,hi]
end Go.Proofs.YtcefcglonooelaaGreatDoor
namespace Go.Proofs.YtcefcglonooelaaGreatDoor
open Go.RowKit
set_option linter.unusedVariables false
set_option maxRecDepth 100000
theorem mem_insert_old (bs : List Pb) (b x : Pb) (h : x ∈ bs) : x ∈ insertP bs b := by
  rw [<- List.take_append_drop (insertAt bs b.nm) bs,List.mem_append] at h;simp only [insertP,List.mem_append,List.mem_singleton];rcases h with h | h
  · exact .inl (.inl h)
  · exact .inr h
end Go.Proofs.YtcefcglonooelaaGreatDoor
namespace Go.Proofs.YtcefcglonooelaaGreatDoor
set_option linter.unusedVariables false
set_option maxRecDepth 100000
theorem getD_put (l : List Int) (i j : Nat) (v : Int) : (l.set i v).getD j 0 = if i = j /\ i < l.length then v else l.getD j 0 := by
  rw [List.getD_eq_getElem?_getD,List.getD_eq_getElem?_getD,List.getElem?_set];by_cases h : i = j
  · subst h
    by_cases h2 : i < l.length
    · rw [if_pos rfl,if_pos h2,if_pos ⟨rfl,h2⟩];rfl
    · rw [if_pos rfl,if_neg h2,if_neg (fun q => h2 q.2),List.getElem?_eq_none (by omega)]
  · rw [if_neg h,if_neg (fun q => h q.1)]
theorem dropAll_keep (l : List Int) : ∀ (cs ps : List Int) (q : Nat),q < cs.length -> 1 <= cs.getD q 0 - (l.count (q : Int) : Int) -> (dropAll (cs,ps) l).2.getD q 0 = ps.getD q 0 := by
  induction l with
  | nil => intro cs ps q _ _;rfl
  | cons p t ih =>
    intro cs ps q hq h;have e : dropAll (cs,ps) (p :: t) = dropAll (dropOne (cs,ps) p) t := rfl;rw [e];unfold dropOne;by_cases hp : 0 <= p
    · rw [if_pos hp]
      simp only;by_cases hpq : p = (q : Int)
      · subst hpq
        rw [List.count_cons_self] at h;simp only [Int.toNat_natCast];have h1 : ¬ cs.getD q 0 = 1 := by omega
        rw [if_neg h1,ih _ _ q (by rw [List.length_set];exact hq) (by rw [getD_put,if_pos ⟨rfl,hq⟩];omega)]
      · rw [List.count_cons_of_ne (fun z => hpq z)] at h
        have hn : ¬ (p.toNat = q /\ p.toNat < cs.length) := fun z => hpq (by omega)
        rw [ih _ _ q (by rw [List.length_set];exact hq) (by rw [getD_put,if_neg hn];exact h)]
        split
        · rw [getD_put,if_neg (fun z => hpq (by omega))]
        · rfl
    · rw [if_neg hp]
      have hpq : ¬ p = (q : Int) := by omega
      rw [List.count_cons_of_ne (fun z => hpq z)] at h;exact ih _ _ q hq h
theorem cnt_two {s : Sf} (h : ShInv s) (i j : Nat) (hi : i < s.bs.length) (hj : j < s.bs.length) (hij : i ≠ j) (q : Nat) (hq : q < s.cs.length) : (s.bs[i]'hi).cnt (q : Int) + (s.bs[j]'hj).cnt (q : Int) <= s.cs.getD q 0 := by
  have h1 := cntAll_set s.bs i hi ⟨(s.bs[i]'hi).nm,1,[],false,0⟩ (q : Int);rw [cnt_empty] at h1;have h2 := cntAll_at (s.bs.set i ⟨(s.bs[i]'hi).nm,1,[],false,0⟩) j (by rw [List.length_set];exact hj) (q : Int);rw [List.getElem_set_ne hij] at h2;rw [h.cnt q hq]
  omega
theorem mem_cnt {b : Pb} {q : Nat} (h : (q : Int) ∈ pages b.rs) : 1 <= b.cnt (q : Int) := by
  unfold Pb.cnt;have := List.count_pos_iff.2 h
  omega
theorem drop_sees {s : Sf} (h : ShInv s) (i j : Nat) (hi : i < s.bs.length) (hj : j < s.bs.length) (hij : i ≠ j) (l : List Int) (hl : ∀ q : Nat,(l.count (q : Int) : Int) <= (s.bs[i]'hi).cnt (q : Int)) (q : Nat) (hq : q < s.cs.length) (hm : (q : Int) ∈ pages (s.bs[j]'hj).rs) : (dropAll (s.cs,s.ps) l).2.getD q 0 = s.ps.getD q 0 := by
  have h2 := cnt_two h i j hi hj hij q hq;have h3 := mem_cnt hm;have h4 := hl q;exact dropAll_keep l s.cs s.ps q hq (by omega)
theorem drop_count_le (l : List Int) (n : Nat) (q : Int) : (l.drop n).count q <= l.count q := List.Sublist.count_le q (List.drop_sublist n l)
theorem free_zero (cs : List Int) (h : firstFree cs < cs.length) : cs.getD (firstFree cs) 0 = 0 := by
  unfold firstFree at h ⊢;have h2 := List.findIdx_getElem (w := h);rw [List.getD_eq_getElem?_getD,List.getElem?_eq_getElem h]
  simpa using h2
theorem write_sees {s : Sf} (h : ShInv s) (o : Oq) (i j : Nat) (hi : i < s.bs.length) (hj : j < s.bs.length) (hij : i ≠ j) (page : Int) (hpg : 0 <= page -> page ∈ pages (s.bs[i]'hi).rs) (q : Nat) (hq : q < s.cs.length) (hm : (q : Int) ∈ pages (s.bs[j]'hj).rs) : (doWrite s i (s.bs[i]'hi) o page).1.ps.getD q 0 = s.ps.getD q 0 := by
  have h2 := cnt_two h i j hi hj hij q hq;have h3 := mem_cnt hm;have h0 := cnt_nonneg (s.bs[i]'hi) (q : Int);have hps := h.cells.p;unfold doWrite
  split
  · rename_i hc
    simp only;rw [getD_put,if_neg];intro z;have e : page = (q : Int) := by omega
    have h5 := mem_cnt (b := s.bs[i]'hi) (q := q) (by rw [<- e];exact hpg hc.1);rw [z.1] at hc
    omega
  · split
    · rename_i hc hf
      simp only
      have hne : ¬ firstFree s.cs = q := fun z => by
        have := free_zero s.cs hf;rw [z] at this
        omega
      have e1 : tookC s.cs = s.cs.set (firstFree s.cs) 1 := by unfold tookC;rw [if_pos hf]
      have e2 : tookP s.cs s.ps o.va = s.ps.set (firstFree s.cs) o.va := by unfold tookP;rw [if_pos hf]
      have hk := dropAll_keep [page] (tookC s.cs) (tookP s.cs s.ps o.va) q (by rw [e1,List.length_set];exact hq) (by
        rw [e1,getD_put,if_neg (fun z => hne z.1)];by_cases z : page = (q : Int)
        · have h5 := mem_cnt (b := s.bs[i]'hi) (q := q) (by rw [<- z];exact hpg (by omega))
          rw [z,List.count_cons_self,List.count_nil]
          omega
        · rw [List.count_cons_of_ne (fun y => z y),List.count_nil]
          omega)
      have e3 : dropAll (tookC s.cs,tookP s.cs s.ps o.va) [page] = dropOne (tookC s.cs,tookP s.cs s.ps o.va) page := rfl;rw [e3] at hk;rw [hk,e2,getD_put,if_neg (fun z => hne z.1)]
    · rfl
theorem keep_other {s : Sf} (h : ShInv s) (o : Oq) (j : Nat) (hj : j < s.bs.length) (hn : (s.bs[j]'hj).nm ≠ o.nm) : (s.bs[j]'hj) ∈ (doOp s o).1.bs /\ ∀ q : Nat,q < s.cs.length -> (q : Int) ∈ pages (s.bs[j]'hj).rs -> (doOp s o).1.ps.getD q 0 = s.ps.getD q 0 := by
  unfold doOp
  split
  · exact ⟨List.getElem_mem hj,fun _ _ _ => rfl⟩
  rename_i ho
  have ho : opOk o = true := by simpa using ho
  split
  · exact ⟨List.getElem_mem hj,fun _ _ _ => rfl⟩
  rename_i hr
  have hr : refused s.bs o = 0 := by simpa using hr
  obtain ⟨r1,r2,r3,r4,r5⟩ := refused_parts hr
  split
  · exact ⟨mem_insert_old _ _ _ (List.getElem_mem hj),fun _ _ _ => rfl⟩
  rename_i q1
  have hfi := r1 q1;obtain ⟨i,hi,hfe,hnm⟩ := find_in s.bs o.nm (by omega);have hij : i ≠ j := fun e => hn (by subst e;exact hnm)
  rw [hfe,bookAt_of s.bs i hi,Int.toNat_natCast];have hset : ∀ b : Pb,(s.bs[j]'hj) ∈ s.bs.set i b := fun b => List.mem_iff_getElem.2 ⟨j,by rw [List.length_set];exact hj,by rw [List.getElem_set_ne hij]⟩
  split
  · refine ⟨?_,fun q hq hm => ?_⟩
    · simp only [List.mem_append]
      by_cases hlt : j < i
      · exact .inl (List.mem_iff_getElem.2 ⟨j,by rw [List.length_take];omega,by rw [List.getElem_take]⟩)
      · exact .inr (List.mem_iff_getElem.2 ⟨j - (i + 1),by rw [List.length_drop];omega,by rw [List.getElem_drop];congr 1;omega⟩)
    · simp only [cutBook]
      rw [bookAt_of s.bs i hi];exact drop_sees h i j hi hj hij _ (fun q => by have := drop_count_le (pages (s.bs[i]'hi).rs) 0 (q : Int);unfold Pb.cnt;omega) q hq hm
  split
  · exact ⟨mem_insert_old _ _ _ (List.getElem_mem hj),fun _ _ _ => rfl⟩
  have hpg : ∀ page : Int,(if o.at_ < 16 then (pages (s.bs[i]'hi).rs).getD o.at_.toNat 0 else -1) = page -> 0 <= page -> page ∈ pages (s.bs[i]'hi).rs := fun page hp h0 => by
    split at hp
    · have hl : o.at_.toNat < (pages (s.bs[i]'hi).rs).length := by rw [pages_length];omega
      rw [List.getD_eq_getElem?_getD,List.getElem?_eq_getElem hl] at hp;rw [<- hp];exact List.getElem_mem hl
    · omega
  obtain ⟨page,hp⟩ : ∃ page,(if o.at_ < 16 then (pages (s.bs[i]'hi).rs).getD o.at_.toNat 0 else -1) = page := ⟨_,rfl⟩
  rw [hp];have hpm := hpg page hp;unfold doKind
  split
  · exact ⟨List.getElem_mem hj,fun _ _ _ => rfl⟩
  split
  · exact ⟨hset _,fun _ _ _ => rfl⟩
  split
  · refine ⟨?_,fun q hq hm => ?_⟩
    · simp only [cutBook]
      refine List.mem_iff_getElem.2 ⟨j,by simp;exact hj,?_⟩;rw [List.getElem_set_ne hij,List.getElem_set_ne hij]
    · simp only [cutBook]
      rw [bookAt_of s.bs i hi];exact drop_sees h i j hi hj hij _ (fun q => by have := drop_count_le (pages (s.bs[i]'hi).rs) o.va.toNat (q : Int);unfold Pb.cnt;omega) q hq hm
  split
  · split
    · rename_i h0
      refine ⟨hset _,fun q hq hm => ?_⟩;have e : dropOne (s.cs,s.ps) page = dropAll (s.cs,s.ps) [page] := rfl;simp only;rw [e];refine drop_sees h i j hi hj hij _ (fun q => ?_) q hq hm;by_cases z : page = (q : Int)
      · have h5 := mem_cnt (b := s.bs[i]'hi) (q := q) (by rw [<- z];exact hpm h0)
        rw [z,List.count_cons_self,List.count_nil]
        omega
      · rw [List.count_cons_of_ne (fun y => z y),List.count_nil]
        have := cnt_nonneg (s.bs[i]'hi) (q : Int)
        omega
    · exact ⟨List.getElem_mem hj,fun _ _ _ => rfl⟩
  · refine ⟨?_,fun q hq hm => write_sees h o i j hi hj hij page hpm q hq hm⟩
    unfold doWrite
    split
    · exact List.getElem_mem hj
    · split
      · exact hset _
      · exact List.getElem_mem hj
theorem keep_shown {s : Sf} (h : ShInv s) (o : Oq) (j : Nat) (hj : j < s.bs.length) (hn : (s.bs[j]'hj).nm ≠ o.nm) : (s.bs[j]'hj) ∈ (doOp s o).1.bs /\ shownV (doOp s o).1.ps (s.bs[j]'hj).rs (s.bs[j]'hj).sz.toNat = shownV s.ps (s.bs[j]'hj).rs (s.bs[j]'hj).sz.toNat := by
  have hk := keep_other h o j hj hn;refine ⟨hk.1,?_⟩;have hparts := shown_parts h j hj;have hl := h.cells.p;unfold shownV;refine List.map_congr_left (fun k hkm => ?_);have hk16 : k < 16 := by have := List.mem_range.1 hkm;omega
  unfold valAt
  split
  · rfl
  · rename_i h0
    obtain ⟨q,hq⟩ := Int.eq_ofNat_of_zero_le (show 0 <= (pages (s.bs[j]'hj).rs).getD k 0 by omega);have hlt := (hparts.2.2 k hk16).2;rw [hq,Int.toNat_natCast];refine hk.2 q (by omega) ?_;have hkl : k < (pages (s.bs[j]'hj).rs).length := by rw [pages_length];omega
    rw [<- hq,List.getD_eq_getElem?_getD,List.getElem?_eq_getElem hkl];exact List.getElem_mem hkl
theorem shownV_nil (ps : List Int) (n : Nat) (hn : n <= 16) : shownV ps [] n = List.replicate n 0 := by
  unfold shownV;rw [List.eq_replicate_iff];refine ⟨by simp,fun x hx => ?_⟩;obtain ⟨k,hk,rfl⟩ := List.mem_map.1 hx;have hk16 : k < 16 := by have := List.mem_range.1 hk;omega
  have e : (pages []).getD k 0 = -1 := none16_at k hk16;unfold valAt;rw [e,if_pos (by omega)]
theorem shown_vs (ps : List Int) (b : Pb) (k : Nat) (hk : k < b.sz.toNat) : (shownP ps b).vs.getD k 0 = valAt ps b.rs k := by
  show (shownV ps b.rs b.sz.toNat).getD k 0 = _
  unfold shownV;simp [List.getD_eq_getElem?_getD,hk]
theorem shown_set (ps : List Int) (bs : List Pb) (i : Nat) (b : Pb) : (bs.set i b).map (shownP ps) = (bs.map (shownP ps)).set i (shownP ps b) := by rw [List.map_set]
theorem as_refused {s : Sf} {o : Oq} (h : opOk o = false \/ refused s.bs o ≠ 0) (told : Int) : ((doOp s o).1.bs.map (shownP (doOp s o).1.ps),(doOp s o).2) = doPlain (s.bs.map (shownP s.ps)) o told := by
  unfold doOp doPlain;rw [shown_refused];by_cases h0 : opOk o = false
  · rw [if_pos h0,if_pos h0]
  · have h1 := h.resolve_left h0
    rw [if_neg h0,if_neg h0,if_pos h1,if_pos h1]
theorem as_make {s : Sf} {o : Oq} (h0 : opOk o = true) (h1 : refused s.bs o = 0) (hk : o.k = 1) (told : Int) : ((doOp s o).1.bs.map (shownP (doOp s o).1.ps),(doOp s o).2) = doPlain (s.bs.map (shownP s.ps)) o told := by
  have hv : o.va.toNat <= 16 := by
    have h := h0;simp only [opOk,Bool.and_eq_true] at h;have h9 := h.2;rw [hk,valOk,if_pos (by decide),inB_iff] at h9
    omega
  generalize hD : doOp s o = D;unfold doOp at hD;rw [if_neg (by rw [h0];decide),if_neg (by rw [h1];simp),if_pos hk] at hD;subst hD;generalize hP : doPlain (s.bs.map (shownP s.ps)) o told = E;unfold doPlain at hP;rw [shown_refused] at hP;rw [if_neg (by rw [h0];decide),if_neg (by rw [h1];simp),if_neg (by omega),if_pos hk] at hP;subst hP;refine Prod.ext ?_ rfl
  show (insertP s.bs ⟨o.nm,o.va,[],false,0⟩).map (shownP s.ps) = putV _ _
  rw [<- shown_put]
  show putV _ ⟨o.nm,o.va,shownV s.ps [] o.va.toNat,false,0⟩ = _
  rw [shownV_nil _ _ hv]
theorem as_other {s : Sf} {o : Oq} (h0 : opOk o = true) (h1 : refused s.bs o = 0) (hk : kOther o.k = true) (told : Int) : ((doOp s o).1.bs.map (shownP (doOp s o).1.ps),(doOp s o).2) = doPlain (s.bs.map (shownP s.ps)) o told := by
  have hk45 : o.k = 4 \/ o.k = 5 := by simpa [kOther] using hk
  have hp := (refused_parts h1).1 (by omega);obtain ⟨i,hi,hf,hn⟩ := find_in s.bs o.nm (by omega);generalize hD : doOp s o = D;unfold doOp at hD;rw [if_neg (by rw [h0];decide),if_neg (by rw [h1];simp),if_neg (by omega),if_neg (by omega),if_pos hk] at hD;subst hD;generalize hP : doPlain (s.bs.map (shownP s.ps)) o told = E;unfold doPlain at hP;rw [shown_refused,shown_find] at hP;rw [if_neg (by rw [h0];decide),if_neg (by rw [h1];simp),if_neg (by omega),if_neg (by omega),if_neg (by omega),if_pos hk] at hP;subst hP;have e : bookAt s.bs (i : Int) = s.bs[i] := by simp [bookAt,List.getD_eq_getElem?_getD,hi]
  rw [hf,Int.toNat_natCast,shown_at _ _ _ hi,e];refine Prod.ext ?_ rfl
  show (insertP s.bs _).map (shownP s.ps) = putV _ _
  rw [<- shown_put]
  rfl
theorem as_read {s : Sf} {o : Oq} (hs : ShInv s) (h0 : opOk o = true) (h1 : refused s.bs o = 0) (hk : o.k = 9) (told : Int) : ((doOp s o).1.bs.map (shownP (doOp s o).1.ps),(doOp s o).2) = doPlain (s.bs.map (shownP s.ps)) o told := by
  have hp := (refused_parts h1).1 (by omega);have hat := (refused_parts h1).2.2.2.1 (by omega) (by rw [hk];rfl);have hb := opOk_bd o h0;obtain ⟨i,hi,hf,hn⟩ := find_in s.bs o.nm (by omega);have e : bookAt s.bs (i : Int) = s.bs[i] := by simp [bookAt,List.getD_eq_getElem?_getD,hi]
  have hsz := (shown_parts hs i hi).2.1;have ho : kOther o.k = false := by rw [hk];rfl
  generalize hD : doOp s o = D;unfold doOp at hD;rw [if_neg (by rw [h0];decide),if_neg (by rw [h1];simp),if_neg (by omega),if_neg (by omega),if_neg (by rw [ho];decide)] at hD;subst hD;generalize hP : doPlain (s.bs.map (shownP s.ps)) o told = E;unfold doPlain at hP;rw [shown_refused,shown_find] at hP;rw [if_neg (by rw [h0];decide),if_neg (by rw [h1];simp),if_neg (by omega),if_neg (by omega),if_neg (by omega),if_neg (by rw [ho];decide)] at hP;subst hP;rw [hf,e] at hat;rw [hf,Int.toNat_natCast,shown_at _ _ _ hi,e];unfold doKind doOne;rw [if_pos hk,if_pos hk,if_pos (show o.at_ < 16 by omega),shown_vs _ _ _ (by omega)]
  rfl
theorem as_attach {s : Sf} {o : Oq} (h0 : opOk o = true) (h1 : refused s.bs o = 0) (hk : o.k = 8) (told : Int) : ((doOp s o).1.bs.map (shownP (doOp s o).1.ps),(doOp s o).2) = doPlain (s.bs.map (shownP s.ps)) o told := by
  have hp := (refused_parts h1).1 (by omega);obtain ⟨i,hi,hf,hn⟩ := find_in s.bs o.nm (by omega);have e : bookAt s.bs (i : Int) = s.bs[i] := by simp [bookAt,List.getD_eq_getElem?_getD,hi]
  have ho : kOther o.k = false := by rw [hk];rfl
  generalize hD : doOp s o = D;unfold doOp at hD;rw [if_neg (by rw [h0];decide),if_neg (by rw [h1];simp),if_neg (by omega),if_neg (by omega),if_neg (by rw [ho];decide)] at hD;subst hD;generalize hP : doPlain (s.bs.map (shownP s.ps)) o told = E;unfold doPlain at hP;rw [shown_refused,shown_find] at hP;rw [if_neg (by rw [h0];decide),if_neg (by rw [h1];simp),if_neg (by omega),if_neg (by omega),if_neg (by omega),if_neg (by rw [ho];decide)] at hP;subst hP;rw [hf,Int.toNat_natCast,shown_at _ _ _ hi,e];unfold doKind doOne;have n9 : ¬ o.k = 9 := by omega
  rw [if_neg n9,if_neg n9,if_pos hk,if_pos hk];refine Prod.ext ?_ rfl
  show (s.bs.set i _).map (shownP s.ps) = (s.bs.map (shownP s.ps)).set i _
  rw [shown_set]
  rfl
end Go.Proofs.YtcefcglonooelaaGreatDoor
