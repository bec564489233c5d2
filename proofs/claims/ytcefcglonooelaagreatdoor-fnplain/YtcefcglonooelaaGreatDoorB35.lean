/-
  Contracts and plain laws, one chapter behind the other.
-/
import Derived.Deep.RegionHeld3
import Derived.Test.YtcefcglonooelaaGreatDoorB33
import Derived.Test.YtcefcglonooelaaGreatDoorB34
namespace Go.Proofs.YtcefcglonooelaaGreatDoor
open Go.RowKit

set_option linter.unusedVariables false

set_option maxRecDepth 100000


/-- One operation waits for the next, and so on. -/
def pathB (md : Region.Mode) (ops : Array Oper) : Nat → List Nat → Bool
  | _, [] => true
  | p, i :: l => depB md ops p i && pathB md ops i l

theorem Down.path {md : Region.Mode} {ops : Array Oper} {L : Array Bool} (h : Down md ops L) : ∀ (l : List Nat) (p : Nat), pathB md ops p l = true → L.getD p false = true → L.getD (l.getLastD p) false = true
  | [], p, _, hp => hp
  | i :: l, p, hl, hp => by
    simp only [pathB, Bool.and_eq_true] at hl
    have := Down.path h l i hl.2 (h p i hp hl.1)
    rw [List.getLastD_cons]
    exact this

theorem Down.no {md : Region.Mode} {ops : Array Oper} {L : Array Bool} (h : Down md ops L) (p : Nat) (l : List Nat) {i : Nat} (hn : L.getD i true = false) (hp : pathB md ops p l = true) (hi : l.getLastD p = i) : L.getD p false = false := by
  rw [Bool.eq_false_iff]
  intro h1
  have h2 := h.path l p hp h1
  rw [hi] at h2
  have h3 := not_done hn
  rw [h2] at h3
  cases h3

/-- p: the store; sB, sV: the slots of its address and of its value. -/
structure RX (ops : Array Oper) (p sB sV : Nat) (R : Nat → Value → World → Prop) (a0 : Act) (W : World) (L : Array Bool) (a : Act) (x X : World) : Prop where
  df : a.defers = a0.defers
  sz : a.tmps.size = a0.tmps.size
  old : ∀ s, ops.toList.all (fun o => o.dst != some s) = true → a.tmps.getD s undef = a0.tmps.getD s undef
  rel : ∀ j s, L.getD j false = true → ((ops[j]?).bind (·.dst)) = some s → R j (a.tmps.getD s undef) X
  bel : Below W.heap.size W X
  pre : L.getD p false = false → x = X
  fin : L.getD p false = true → ∃ n zs, a.tmps.getD sB undef = .pointer (some ⟨n, 0, none⟩) ∧ a.tmps.getD sV undef = .agg zs ∧ x = X.setRow n zs

def RXs (ops : Array Oper) (p sB sV : Nat) (R : Nat → Value → World → Prop) (a0 : Act) (W : World) (L : Array Bool) (a : Act) (x : World) : Prop := ∃ X, RX ops p sB sV R a0 W L a x X

theorem RXs.start (ops : Array Oper) (p sB sV : Nat) (R : Nat → Value → World → Prop) (a0 : Act) (W : World) : RXs ops p sB sV R a0 W (Array.replicate ops.size false) a0 W.drew := by
  have hn : ∀ j, (Array.replicate ops.size false).getD j false = false := fun j => by
    rw [Array.getD_eq_getD_getElem?, Array.getElem?_replicate]
    split <;> rfl
  exact ⟨W.drew, rfl, rfl, fun _ _ => rfl, (fun j s h => by rw [hn] at h; cases h), bw_drew (Below.refl _ _), fun _ => rfl, (fun h => by rw [hn] at h; cases h)⟩

/-- An operation ahead of the store: it answers, and may make memory. -/
theorem RX.val {ops : Array Oper} {p sB sV : Nat} {R : Nat → Value → World → Prop} {a0 : Act} {W : World} {L : Array Bool} {a : Act} {x X : World} (h : RX ops p sB sV R a0 W L a x X) (i s : Nat) (v : Value) (x' : World) (hp : i ≠ p) (hi : ((ops[i]?).bind (·.dst)) = some s) (hs : s < a0.tmps.size) (hd : (ops.toList.all (fun o => o.dst != some s)) = false) (hu : uniqB ops s i = true)
    (hn : L.getD p false = false) (hb : Below x.heap.size x x') (hv : R i v x') (hm : ∀ j u, R j u x → R j u x') : RXs ops p sB sV R a0 W (L.setIfInBounds i true) (a.put (some s) v) x' := by
  obtain rfl := h.pre hn
  refine ⟨x', h.df, by show (a.tmps.setIfInBounds s v).size = _; rw [Array.size_setIfInBounds]; exact h.sz, fun r hr => ?_, fun j r hj hr => ?_, bw_call h.bel hb, fun _ => rfl, fun hl => by rw [getD_other hp, hn] at hl; cases hl⟩
  · have hne : s ≠ r := fun e => by subst e; rw [hd] at hr; cases hr
    exact (tmps_other v hne).trans (h.old r hr)
  · show R j ((a.tmps.setIfInBounds s v).getD r undef) x'
    by_cases e : i = j
    · subst e
      rw [hi] at hr
      cases hr
      rw [tmps_self v (by rw [h.sz]; exact hs)]
      exact hv
    · have hne : s ≠ r := fun e2 => by subst e2; exact e (uniq_of hu j hr).symm
      rw [tmps_other v hne]
      rw [getD_other e] at hj
      exact hm _ _ (h.rel j r hj hr)

/-- An operation that answers and makes nothing, ahead of the store or behind it. -/
theorem RX.put {ops : Array Oper} {p sB sV : Nat} {R : Nat → Value → World → Prop} {a0 : Act} {W : World} {L : Array Bool} {a : Act} {x X : World} (h : RX ops p sB sV R a0 W L a x X) (i s : Nat) (v : Value) (hp : i ≠ p) (hi : ((ops[i]?).bind (·.dst)) = some s) (hs : s < a0.tmps.size) (hd : (ops.toList.all (fun o => o.dst != some s)) = false) (hu : uniqB ops s i = true)
    (hB : s ≠ sB) (hV : s ≠ sV) (hv : R i v X) : RXs ops p sB sV R a0 W (L.setIfInBounds i true) (a.put (some s) v) x := by
  refine ⟨X, h.df, by show (a.tmps.setIfInBounds s v).size = _; rw [Array.size_setIfInBounds]; exact h.sz, fun r hr => ?_, fun j r hj hr => ?_, h.bel, fun hl => h.pre (by rwa [getD_other hp] at hl), fun hl => ?_⟩
  · have hne : s ≠ r := fun e => by subst e; rw [hd] at hr; cases hr
    exact (tmps_other v hne).trans (h.old r hr)
  · show R j ((a.tmps.setIfInBounds s v).getD r undef) X
    by_cases e : i = j
    · subst e
      rw [hi] at hr
      cases hr
      rw [tmps_self v (by rw [h.sz]; exact hs)]
      exact hv
    · have hne : s ≠ r := fun e2 => by subst e2; exact e (uniq_of hu j hr).symm
      rw [tmps_other v hne]
      rw [getD_other e] at hj
      exact h.rel j r hj hr
  · rw [getD_other hp] at hl
    obtain ⟨n, zs, e1, e2, e3⟩ := h.fin hl
    exact ⟨n, zs, (tmps_other v hB).trans e1, (tmps_other v hV).trans e2, e3⟩

theorem RX.store {ops : Array Oper} {p sB sV : Nat} {R : Nat → Value → World → Prop} {a0 : Act} {W : World} {L : Array Bool} {a : Act} {x X : World} (h : RX ops p sB sV R a0 W L a x X) (hp : p < L.size) (hn : L.getD p false = false) (hd : ((ops[p]?).bind (·.dst)) = none) {n : Nat} {zs : Array Value} (hB : a.tmps.getD sB undef = .pointer (some ⟨n, 0, none⟩)) (hV : a.tmps.getD sV undef = .agg zs) : RXs ops p sB sV R a0 W (L.setIfInBounds p true) a (x.setRow n zs) := by
  obtain rfl := h.pre hn
  refine ⟨x, h.df, h.sz, h.old, fun j r hj hr => ?_, h.bel, fun hl => ?_, fun _ => ⟨n, zs, hB, hV, rfl⟩⟩
  · by_cases e : p = j
    · subst e; rw [hd] at hr; cases hr
    · rw [getD_other e] at hj
      exact h.rel j r hj hr
  · rw [getD_self hp] at hl; cases hl

theorem RX.frame {ops : Array Oper} {p sB sV : Nat} {R : Nat → Value → World → Prop} {a0 : Act} {W : World} {L : Array Bool} {a : Act} {x X : World} (h : RX ops p sB sV R a0 W L a x X) (S : List Nat) (hS : frameB ops S a0.tmps.size = true) : a = Act.puts a0 (fun s => a.tmps.getD s undef) S := by
  have hd : a.defers = (Act.puts a0 (fun s => a.tmps.getD s undef) S).defers := by rw [puts_defers]; exact h.df
  have ht : a.tmps = (Act.puts a0 (fun s => a.tmps.getD s undef) S).tmps := by
    refine arr_ext (by rw [puts_size]; exact h.sz) (fun r hr => ?_)
    rw [puts_at _ S a0 r (by rw [← h.sz]; exact hr)]
    by_cases hm : r ∈ S
    · rw [if_pos hm]
    · rw [if_neg hm]
      exact h.old r (frame_of hS r (by rw [← h.sz]; exact hr) hm)
  generalize Act.puts a0 (fun s => a.tmps.getD s undef) S = b at hd ht
  cases a
  cases b
  simp only at hd ht
  rw [hd, ht]

theorem row_upto {w : World} {g : Nat} {cs : Array Value} : Upto g w (w.setRow g cs) := by
  refine ⟨rfl, rfl, rfl, by simp [World.setRow], fun k hk hne => ?_⟩
  simp only [World.setRow, Array.getElem?_modify]
  rw [if_neg (fun e => hne e.symm)]
end Go.Proofs.YtcefcglonooelaaGreatDoor

namespace Go.Proofs.YtcefcglonooelaaGreatDoor
open Go.RowKit

set_option linter.unusedVariables false


theorem blk_src9 {w : World} {o : Option Addr} {n cap : Nat} {xs : List Int} (h : ReadsR 1 intC w.heap.size w (.slice o n cap) xs) : BlkSrc o w xs := fun j x hj => by
  obtain ⟨o', c', e, -, hc, -⟩ := h
  cases e
  obtain ⟨g, off, rfl, hg, hx⟩ := hc j x hj
  refine ⟨⟨g, off, none⟩, rfl, ?_, hg⟩
  have := hx 0 _ rfl
  have e : (⟨g, off, none⟩ : Addr).add j = ⟨g, off + j, none⟩ := by unfold Addr.add; split <;> simp_all
  rw [e]
  simpa using this

theorem blk_reads {W : World} {B N : Nat} {xr : List Int} {t : TypeId} (k : W.heap[B]? = some (.cells (blk xr) t (0, 0))) (hN : N ≤ 16) : Reads W.heap.size W (.slice (some ⟨B, 0, none⟩) N 16) (((blkL xr).take N).map (Value.int .i64)) := by
  have hl : (((blkL xr).take N).map (Value.int .i64)).length = N := by rw [List.length_map, List.length_take, blkL_len]; omega
  refine ⟨some ⟨B, 0, none⟩, 16, by rw [hl], by rw [hl]; unfold maxLen; omega, fun j u hj => ⟨B, 0, rfl, heap_lt k, ?_⟩, by rw [hl]; exact hN⟩
  rw [List.map_take, List.getElem?_take] at hj
  split at hj
  · rw [Nat.zero_add, at_cell k, blk]
    simpa using hj
  · cases hj

theorem set_two9 {W : World} {c : Nat} {x0 x1 x2 x3 x4 : Value} {T : TypeId} (k : W.heap[c]? = some (.cells #[x0, x1, x2, x3, x4] T (0, 0))) (y1 y2 : Value) :
    ((W.setCell ⟨c, 1, none⟩ y1).setCell ⟨c, 2, none⟩ y2).heap[c]? = some (.cells #[x0, y1, y2, x3, x4] T (0, 0)) ∧ Upto c W ((W.setCell ⟨c, 1, none⟩ y1).setCell ⟨c, 2, none⟩ y2) :=
  ⟨set_at (set_at k 1 y1) 2 y2, ((Upto.refl _ _).setCell ⟨c, 1, none⟩ (.inl rfl) _).setCell ⟨c, 2, none⟩ (.inl rfl) _⟩

set_option maxRecDepth 100000 in
set_option maxHeartbeats 3200000 in
theorem resizedPlain_any (xn : ByteArray) (xz : Int) (xm : Value) (xr : List Int) (xf : Bool) (xe : Int) (N : Nat) (w : World) (hN : N ≤ 16) (hl : xr.length ≤ 1048576) (r : ReadsR 1 intC w.heap.size w xm xr) :
    Calls Tryz.prog 131 #[.agg #[.string xn, .int .i64 xz, xm, .bool xf, .int .i64 xe], .int .i64 (N : Int)] w fun e w' => ∃ v' : Value, e = .returned (.agg #[.string xn, .int .i64 (N : Int), v', .bool xf, .int .i64 xe]) ∧ w'.ownsRow w.heap.size 2 1 v' N (((blkL xr).take N).flatMap intC) ∧ Below w.heap.size w w' := by
  obtain ⟨om, cm, hmf⟩ := r.form
  subst hmf
  obtain ⟨W0, hW0, kP, kR, d0, z0⟩ := box2 w #[.string xn, .int .i64 xz, .slice om xr.length cm, .bool xf, .int .i64 xe] #[.string ⟨#[]⟩, .int .i64 0, .slice none 0 0, .bool false, .int .i64 0] 51 51
  have HW0 : Hid (W0 = _) := hW0
  have r0 := (r.below d0).mono d0.size
  have HSRC : Hid (BlkSrc om W0 xr) := blk_src9 r0
  have HML : Hid (xr.length ≤ maxLen) := by rw [Hid]; unfold maxLen; omega
  have zs0 : w.heap.size + 1 < W0.heap.size := by omega
  have HBR : Hid (∀ (W : World) (B : Nat), W.heap[B]? = some (.cells (blk xr) 169 (0, 0)) → Reads W.heap.size W (.slice (some ⟨B, 0, none⟩) N 16) (((blkL xr).take N).map (Value.int .i64))) := fun W B k => blk_reads k hN
  have HLL : Hid (((blkL xr).take N).length = N) := by rw [Hid, List.length_take, blkL_len]; omega
  have HI : Hid ((Tryz.prog.info? 169).map (·.size) = some (blk xr).size) := by rw [Hid, blk_size]; exact infoVB16
  have HZ : Hid ((#[.int .i64 0, .int .i64 0, .int .i64 0, .int .i64 0, .int .i64 0, .int .i64 0, .int .i64 0, .int .i64 0, .int .i64 0, .int .i64 0, .int .i64 0, .int .i64 0, .int .i64 0, .int .i64 0, .int .i64 0, .int .i64 0] : Array Value).size = (blk xr).size) := by rw [Hid, blk_size]; rfl
  have H1 : Hid ((blk xr).all (·.oneCell') = true) := by rw [Hid, blk, Array.all_eq_true']; intro u hu; simp at hu; obtain ⟨z, -, rfl⟩ := hu; rfl
  have hb : ∀ (w : World), BlkSrc om w xr → Calls Tryz.prog 137 #[.slice om xr.length cm] w fun e w' => e = .returned (.agg (blk xr)) ∧ Below w.heap.size w w' := fun w h => blockOf_any om xr.length cm xr w rfl HML.out h
  obtain ⟨L, hL⟩ : ∃ L, (blkL xr).take N = L := ⟨_, rfl⟩
  obtain ⟨BB, hBB⟩ : ∃ BB, blk xr = BB := ⟨_, rfl⟩
  rw [hL] at HBR HLL ⊢
  rw [hBB] at HBR HI HZ H1 hb
  clear hL hBB hW0 z0 r r0
  have n0 : (0 : Int) ≤ (N : Int) := by omega
  have n1 : (N : Int) ≤ 16 := by omega
  go_enter Tryz.func131, Tryz.ntmps131
  go_upto_region 1 with fail
  rw [← HW0.out]
  clear HW0
  have p2 := at_cell kP 2
  go_wp2_with fail
  refine (hb _ HSRC.out).mono ?_
  rintro e w1 ⟨rfl, b1⟩
  have kP1 := (b1.block _ (heap_lt kP)).trans kP
  have kR1 := (b1.block _ (heap_lt kR)).trans kR
  have d1 := bw_call d0 b1
  have sz1 : w.heap.size + 1 < w1.heap.size := Nat.lt_of_lt_of_le zs0 b1.size
  have HNEW : Hid ((w1.alloc (.cells #[.int .i64 0, .int .i64 0, .int .i64 0, .int .i64 0, .int .i64 0, .int .i64 0, .int .i64 0, .int .i64 0, .int .i64 0, .int .i64 0, .int .i64 0, .int .i64 0, .int .i64 0, .int .i64 0, .int .i64 0, .int .i64 0] 169)).heap[w1.heap.size]? = some (.cells #[.int .i64 0, .int .i64 0, .int .i64 0, .int .i64 0, .int .i64 0, .int .i64 0, .int .i64 0, .int .i64 0, .int .i64 0, .int .i64 0, .int .i64 0, .int .i64 0, .int .i64 0, .int .i64 0, .int .i64 0, .int .i64 0] 169 (0, 0))) := heap_alloc_new w1 _
  obtain ⟨W2, hW2⟩ : ∃ W2, (w1.alloc (.cells #[.int .i64 0, .int .i64 0, .int .i64 0, .int .i64 0, .int .i64 0, .int .i64 0, .int .i64 0, .int .i64 0, .int .i64 0, .int .i64 0, .int .i64 0, .int .i64 0, .int .i64 0, .int .i64 0, .int .i64 0, .int .i64 0] 169)).setRow w1.heap.size BB = W2 := ⟨_, rfl⟩
  have k5 : W2.heap[w1.heap.size]? = some (.cells BB 169 (0, 0)) := by rw [← hW2]; exact setRow_row HNEW.out
  have b2 : Below w1.heap.size w1 W2 := by rw [← hW2]; exact (bw_alloc (Below.refl _ _)).trans (setRow_below (Nat.le_refl _))
  have HW2 : Hid (_ = W2) := hW2
  have HRD : Hid _ := HBR.out W2 _ k5
  have kP2 := (b2.block _ (heap_lt kP1)).trans kP1
  have kR2 := (b2.block _ (heap_lt kR1)).trans kR1
  have d2 := bw_call d1 b2
  have sz2 : w.heap.size + 1 < W2.heap.size := Nat.lt_of_lt_of_le sz1 b2.size
  clear hW2 b1 b2 kP1 kR1 d1 kP kR d0 p2 hb HSRC HML HBR k5 zs0
  go_upto_region 2 with (with_reducible refine wpList_store_arr rfl _ _ 169 rfl w1.heap.size rfl BB rfl #[.int .i64 0, .int .i64 0, .int .i64 0, .int .i64 0, .int .i64 0, .int .i64 0, .int .i64 0, .int .i64 0, .int .i64 0, .int .i64 0, .int .i64 0, .int .i64 0, .int .i64 0, .int .i64 0, .int .i64 0, .int .i64 0] 169 HNEW.out HI.out HZ.out H1.out ?_)
  rw [HW2.out]
  clear HW2 HNEW HI HZ H1
  go_wp2_with fail
  refine (sameNumbers_any _ L _ (by have := HLL.out; omega) HRD.out).mono ?_
  rintro e w3 ⟨v3, rfl, ow3, hn3, b3⟩
  rw [HLL.out] at ow3
  obtain ⟨o3, c3, hv3⟩ := own_slice ow3
  subst hv3
  have kP3 := (b3.block _ (heap_lt kP2)).trans kP2
  have kR3 := (b3.block _ (heap_lt kR2)).trans kR2
  have d3 := bw_call d2 b3
  have ow4 : w3.ownsRow w.heap.size 2 1 (.slice o3 N c3) N (L.flatMap intC) := by rw [ints_flat]; exact owns_mono ow3 (by omega)
  have hp := set_two9 kP3 (.int .i64 (N : Int)) (.slice o3 N c3)
  have kPW := hp.1
  have kRW := (hp.2.block _ (heap_lt kR3) (by omega)).trans kR3
  have owW := own_box_k ow4 kP3 (by decide) hp.2
  have dW := d3.trans (hp.2.toBelow d3.size (Nat.le_refl _))
  have q1 := at_cell kP3 1
  have q2 := at_cell kP3 2
  have f1 := at_open kP3 1
  have f2 := at_open kP3 2
  clear b3 ow3 ow4 hn3 kP2 kR2 d2 d3 hp kP3 kR3 HRD
  go_upto_region 3 with fail
  generalize (w3.setCell ⟨w.heap.size, 1, none⟩ (.int .i64 (N : Int))).setCell ⟨w.heap.size, 2, none⟩ (.slice o3 N c3) = W4 at *
  clear q1 q2 f1 f2
  have HS : Hid _ := five_end (Nat.le_succ _) kRW dW owW (.string xn) (.int .i64 (N : Int)) (.slice o3 N c3) (.bool xf) (.int .i64 xe)
  have a0 := at_cell kPW 0
  have a1 := at_cell kPW 1
  have a2 := at_cell kPW 2
  have a3 := at_cell kPW 3
  have a4 := at_cell kPW 4
  have b0 := at_cell kRW 0
  have b1 := at_cell kRW 1
  have b2 := at_cell kRW 2
  have b3 := at_cell kRW 3
  have b4 := at_cell kRW 4
  have c0 := at_open kRW 0
  have c1 := at_open kRW 1
  have c2 := at_open kRW 2
  have c3' := at_open kRW 3
  have c4 := at_open kRW 4
  clear kPW kRW dW owW
  go_wp2_with fail
  exact bodyPost_ret (v := .agg #[.string xn, .int .i64 (N : Int), .slice o3 N c3, .bool xf, .int .i64 xe]) (by simp [results, Tryz.results131, go_sem, at_cell HS.out.1]) rfl ⟨_, rfl, HS.out.2.1, HS.out.2.2⟩
end Go.Proofs.YtcefcglonooelaaGreatDoor

namespace Go.Proofs.YtcefcglonooelaaGreatDoor
open Go.RowKit

set_option linter.unusedVariables false

set_option maxRecDepth 100000


set_option maxHeartbeats 3200000 in
theorem changedPlain_2 (xn : ByteArray) (xz : Int) (xm : Value) (xr : List Int) (xf : Bool) (xe : Int) (nm ot : ByteArray) (A : Nat) (va ep : Int) (w : World) (hA : A < xr.length) (hl : xr.length ≤ 1048576) (r : ReadsR 1 intC w.heap.size w xm xr) :
    Calls Tryz.prog 81 #[.agg #[.string xn, .int .i64 xz, xm, .bool xf, .int .i64 xe], .agg #[.int .i64 2, .string nm, .string ot, .int .i64 (A : Int), .int .i64 va, .int .i64 ep]] w fun e w' => ∃ v' : Value, e = .returned (.tuple #[.agg #[.string xn, .int .i64 xz, v', .bool xf, .int .i64 xe], .int .i64 0]) ∧ w'.ownsRow w.heap.size 2 1 v' (xr.set A va).length ((xr.set A va).flatMap intC) ∧ Below w.heap.size w w' := by
  obtain ⟨om, cm, hmf⟩ := r.form
  subst hmf
  obtain ⟨W0, hW0, kP, kO, kR, d0, z0⟩ := box3 w #[.string xn, .int .i64 xz, .slice om xr.length cm, .bool xf, .int .i64 xe] #[.int .i64 2, .string nm, .string ot, .int .i64 (A : Int), .int .i64 va, .int .i64 ep] #[.string ⟨#[]⟩, .int .i64 0, .slice none 0 0, .bool false, .int .i64 0] 51 26 51
  have HW0 : Hid (W0 = _) := hW0
  have r0 := (r.below d0).mono d0.size
  have HC : Hid _ := writtenPlain_any xn xz _ xr xf xe A va W0 hA hl (readsK_to r0)
  obtain ⟨ys, hys⟩ : ∃ ys, (xr.set A va) = ys := ⟨_, rfl⟩
  rw [hys] at HC ⊢
  clear hys hW0 r
  go_enter Tryz.func81, Tryz.ntmps81
  go_upto_region 1 with fail
  rw [← HW0.out]
  clear HW0
  have p0 := at_cell kP 0
  have p1 := at_cell kP 1
  have p2 := at_cell kP 2
  have p3 := at_cell kP 3
  have p4 := at_cell kP 4
  have q0 := at_cell kO 0
  have q3 := at_cell kO 3
  have q4 := at_cell kO 4
  go_wp2_with fail
  clear p0 p1 p2 p3 p4 q0 q3 q4
  refine Calls.mono HC.out ?_
  rintro e w1 ⟨v1, rfl, ow1, b1⟩
  obtain ⟨o1, c1, hv1⟩ := own_slice ow1
  subst hv1
  have kR1 := (b1.block _ (heap_lt kR)).trans kR
  have ow2 : w1.ownsRow w.heap.size 2 1 (.slice o1 ys.length c1) ys.length (ys.flatMap intC) := owns_mono ow1 d0.size
  have d1 := bw_call d0 b1
  have HS : Hid _ := five_end (by omega) kR1 d1 ow2 (.string xn) (.int .i64 xz) (.slice o1 ys.length c1) (.bool xf) (.int .i64 xe)
  have b0 := at_cell kR1 0
  have b1' := at_cell kR1 1
  have b2 := at_cell kR1 2
  have b3 := at_cell kR1 3
  have b4 := at_cell kR1 4
  have c0 := at_open kR1 0
  have c1' := at_open kR1 1
  have c2 := at_open kR1 2
  have c3 := at_open kR1 3
  have c4 := at_open kR1 4
  clear kR1 d1 ow1 ow2 b1 kP kO kR d0 r0 HC
  go_wp2_with fail
  exact bodyPost_ret (v := .tuple #[.agg #[.string xn, .int .i64 xz, .slice o1 ys.length c1, .bool xf, .int .i64 xe], .int .i64 0]) (by simp [results, Tryz.results81, go_sem, at_cell HS.out.1]) rfl ⟨_, rfl, HS.out.2.1, HS.out.2.2⟩

set_option maxHeartbeats 3200000 in
theorem changedPlain_3 (xn : ByteArray) (xz : Int) (xm : Value) (xr : List Int) (xf : Bool) (xe : Int) (nm ot : ByteArray) (A : Nat) (va ep : Int) (w : World) (hA : A < xr.length) (hl : xr.length ≤ 1048576) (r : ReadsR 1 intC w.heap.size w xm xr) :
    Calls Tryz.prog 81 #[.agg #[.string xn, .int .i64 xz, xm, .bool xf, .int .i64 xe], .agg #[.int .i64 3, .string nm, .string ot, .int .i64 (A : Int), .int .i64 va, .int .i64 ep]] w fun e w' => ∃ v' : Value, e = .returned (.tuple #[.agg #[.string xn, .int .i64 xz, v', .bool xf, .int .i64 xe], .int .i64 0]) ∧ w'.ownsRow w.heap.size 2 1 v' (xr.set A 0).length ((xr.set A 0).flatMap intC) ∧ Below w.heap.size w w' := by
  obtain ⟨om, cm, hmf⟩ := r.form
  subst hmf
  obtain ⟨W0, hW0, kP, kO, kR, d0, z0⟩ := box3 w #[.string xn, .int .i64 xz, .slice om xr.length cm, .bool xf, .int .i64 xe] #[.int .i64 3, .string nm, .string ot, .int .i64 (A : Int), .int .i64 va, .int .i64 ep] #[.string ⟨#[]⟩, .int .i64 0, .slice none 0 0, .bool false, .int .i64 0] 51 26 51
  have HW0 : Hid (W0 = _) := hW0
  have r0 := (r.below d0).mono d0.size
  have HC : Hid _ := writtenPlain_any xn xz _ xr xf xe A 0 W0 hA hl (readsK_to r0)
  obtain ⟨ys, hys⟩ : ∃ ys, (xr.set A 0) = ys := ⟨_, rfl⟩
  rw [hys] at HC ⊢
  clear hys hW0 r
  go_enter Tryz.func81, Tryz.ntmps81
  go_upto_region 1 with fail
  rw [← HW0.out]
  clear HW0
  have p0 := at_cell kP 0
  have p1 := at_cell kP 1
  have p2 := at_cell kP 2
  have p3 := at_cell kP 3
  have p4 := at_cell kP 4
  have q0 := at_cell kO 0
  have q3 := at_cell kO 3
  have q4 := at_cell kO 4
  go_wp2_with fail
  clear p0 p1 p2 p3 p4 q0 q3 q4
  refine Calls.mono HC.out ?_
  rintro e w1 ⟨v1, rfl, ow1, b1⟩
  obtain ⟨o1, c1, hv1⟩ := own_slice ow1
  subst hv1
  have kR1 := (b1.block _ (heap_lt kR)).trans kR
  have ow2 : w1.ownsRow w.heap.size 2 1 (.slice o1 ys.length c1) ys.length (ys.flatMap intC) := owns_mono ow1 d0.size
  have d1 := bw_call d0 b1
  have HS : Hid _ := five_end (by omega) kR1 d1 ow2 (.string xn) (.int .i64 xz) (.slice o1 ys.length c1) (.bool xf) (.int .i64 xe)
  have b0 := at_cell kR1 0
  have b1' := at_cell kR1 1
  have b2 := at_cell kR1 2
  have b3 := at_cell kR1 3
  have b4 := at_cell kR1 4
  have c0 := at_open kR1 0
  have c1' := at_open kR1 1
  have c2 := at_open kR1 2
  have c3 := at_open kR1 3
  have c4 := at_open kR1 4
  clear kR1 d1 ow1 ow2 b1 kP kO kR d0 r0 HC
  go_wp2_with fail
  exact bodyPost_ret (v := .tuple #[.agg #[.string xn, .int .i64 xz, .slice o1 ys.length c1, .bool xf, .int .i64 xe], .int .i64 0]) (by simp [results, Tryz.results81, go_sem, at_cell HS.out.1]) rfl ⟨_, rfl, HS.out.2.1, HS.out.2.2⟩

set_option maxHeartbeats 3200000 in
theorem changedPlain_7 (xn : ByteArray) (xz : Int) (xm : Value) (xr : List Int) (xf : Bool) (xe : Int) (nm ot : ByteArray) (at_ : Int) (N : Nat) (ep : Int) (w : World) (hN : N ≤ 16) (hl : xr.length ≤ 1048576) (r : ReadsR 1 intC w.heap.size w xm xr) :
    Calls Tryz.prog 81 #[.agg #[.string xn, .int .i64 xz, xm, .bool xf, .int .i64 xe], .agg #[.int .i64 7, .string nm, .string ot, .int .i64 at_, .int .i64 (N : Int), .int .i64 ep]] w fun e w' => ∃ v' : Value, e = .returned (.tuple #[.agg #[.string xn, .int .i64 (N : Int), v', .bool xf, .int .i64 xe], .int .i64 0]) ∧ w'.ownsRow w.heap.size 2 1 v' N (((blkL xr).take N).flatMap intC) ∧ Below w.heap.size w w' := by
  obtain ⟨om, cm, hmf⟩ := r.form
  subst hmf
  obtain ⟨W0, hW0, kP, kO, kR, d0, z0⟩ := box3 w #[.string xn, .int .i64 xz, .slice om xr.length cm, .bool xf, .int .i64 xe] #[.int .i64 7, .string nm, .string ot, .int .i64 at_, .int .i64 (N : Int), .int .i64 ep] #[.string ⟨#[]⟩, .int .i64 0, .slice none 0 0, .bool false, .int .i64 0] 51 26 51
  have HW0 : Hid (W0 = _) := hW0
  have r0 := (r.below d0).mono d0.size
  have HC : Hid _ := resizedPlain_any xn xz _ xr xf xe N W0 hN hl r0
  obtain ⟨ys, hys⟩ : ∃ ys, ((blkL xr).take N) = ys := ⟨_, rfl⟩
  rw [hys] at HC ⊢
  clear hys hW0 r
  go_enter Tryz.func81, Tryz.ntmps81
  go_upto_region 1 with fail
  rw [← HW0.out]
  clear HW0
  have p0 := at_cell kP 0
  have p1 := at_cell kP 1
  have p2 := at_cell kP 2
  have p3 := at_cell kP 3
  have p4 := at_cell kP 4
  have q0 := at_cell kO 0
  have q3 := at_cell kO 3
  have q4 := at_cell kO 4
  go_wp2_with fail
  clear p0 p1 p2 p3 p4 q0 q3 q4
  refine Calls.mono HC.out ?_
  rintro e w1 ⟨v1, rfl, ow1, b1⟩
  obtain ⟨o1, c1, hv1⟩ := own_slice ow1
  subst hv1
  have kR1 := (b1.block _ (heap_lt kR)).trans kR
  have ow2 : w1.ownsRow w.heap.size 2 1 (.slice o1 N c1) N (ys.flatMap intC) := owns_mono ow1 d0.size
  have d1 := bw_call d0 b1
  have HS : Hid _ := five_end (by omega) kR1 d1 ow2 (.string xn) (.int .i64 (N : Int)) (.slice o1 N c1) (.bool xf) (.int .i64 xe)
  have b0 := at_cell kR1 0
  have b1' := at_cell kR1 1
  have b2 := at_cell kR1 2
  have b3 := at_cell kR1 3
  have b4 := at_cell kR1 4
  have c0 := at_open kR1 0
  have c1' := at_open kR1 1
  have c2 := at_open kR1 2
  have c3 := at_open kR1 3
  have c4 := at_open kR1 4
  clear kR1 d1 ow1 ow2 b1 kP kO kR d0 r0 HC
  go_wp2_with fail
  exact bodyPost_ret (v := .tuple #[.agg #[.string xn, .int .i64 (N : Int), .slice o1 N c1, .bool xf, .int .i64 xe], .int .i64 0]) (by simp [results, Tryz.results81, go_sem, at_cell HS.out.1]) rfl ⟨_, rfl, HS.out.2.1, HS.out.2.2⟩
end Go.Proofs.YtcefcglonooelaaGreatDoor

namespace Go.Proofs.YtcefcglonooelaaGreatDoor
open Go.RowKit

set_option linter.unusedVariables false

set_option maxRecDepth 100000


set_option maxHeartbeats 3200000 in
theorem changedPlain_8 (xn : ByteArray) (xz : Int) (xm : Value) (xr : List Int) (xf : Bool) (xe E : Int) (nm ot : ByteArray) (at_ va ep : Int) (w : World) (he : xe + 1 = E) (h0 : 0 ≤ xe) (h1 : xe ≤ 1000) (r : ReadsR 1 intC w.heap.size w xm xr) :
    Calls Tryz.prog 81 #[.agg #[.string xn, .int .i64 xz, xm, .bool xf, .int .i64 xe], .agg #[.int .i64 8, .string nm, .string ot, .int .i64 at_, .int .i64 va, .int .i64 ep]] w fun e w' => e = .returned (.tuple #[.agg #[.string xn, .int .i64 xz, xm, .bool xf, .int .i64 E], .int .i64 E]) ∧ Below w.heap.size w w' := by
  obtain ⟨om, cm, hmf⟩ := r.form
  subst hmf
  obtain ⟨W0, hW0, kP, kO, kR, d0, z0⟩ := box3 w #[.string xn, .int .i64 xz, .slice om xr.length cm, .bool xf, .int .i64 xe] #[.int .i64 8, .string nm, .string ot, .int .i64 at_, .int .i64 va, .int .i64 ep] #[.string ⟨#[]⟩, .int .i64 0, .slice none 0 0, .bool false, .int .i64 0] 51 26 51
  have HW0 : Hid (W0 = _) := hW0
  have hw : IntKind.i64.wrap (xe + 1) = E := by rw [IntKind.wrap_i64]; omega
  clear hW0 r he h0 h1
  go_enter Tryz.func81, Tryz.ntmps81
  go_upto_region 1 with fail
  rw [← HW0.out]
  clear HW0
  have p4 := at_cell kP 4
  have f4 := at_open kP 4
  have q0 := at_cell kO 0
  have u0 : Upto w.heap.size W0 (W0.setCell ⟨w.heap.size, 4, none⟩ (.int .i64 E)) := (Upto.refl _ _).setCell ⟨w.heap.size, 4, none⟩ (.inl rfl) _
  have kPW := set_at kP 4 (.int .i64 E)
  have kRW := (u0.block _ (heap_lt kR) (by omega)).trans kR
  have dW := d0.trans (u0.toBelow d0.size (Nat.le_refl _))
  clear kP kO kR d0 u0 z0
  go_upto_region 10 with fail
  generalize W0.setCell ⟨w.heap.size, 4, none⟩ (.int .i64 E) = W2 at *
  clear p4 f4 q0 hw
  have HS : Hid _ := five_end (W := W2) (v := .slice none 0 0) (n := 0) (xs := []) (by omega) kRW dW (World.ownsRow_nil _ _ _ _) (.string xn) (.int .i64 xz) (.slice om xr.length cm) (.bool xf) (.int .i64 E)
  have HS2 : Hid _ := five_end (W := W2.drew) (v := .slice none 0 0) (n := 0) (xs := []) (by omega) kRW (bw_drew dW) (World.ownsRow_nil _ _ _ _) (.string xn) (.int .i64 xz) (.slice om xr.length cm) (.bool xf) (.int .i64 E)
  have a0 : W2.drew.cell? ⟨w.heap.size, 0, none⟩ = _ := at_cell kPW 0
  have a0' : W2.cell? ⟨w.heap.size, 0, none⟩ = _ := at_cell kPW 0
  have a1 : W2.drew.cell? ⟨w.heap.size, 1, none⟩ = _ := at_cell kPW 1
  have a1' : W2.cell? ⟨w.heap.size, 1, none⟩ = _ := at_cell kPW 1
  have a2 : W2.drew.cell? ⟨w.heap.size, 2, none⟩ = _ := at_cell kPW 2
  have a2' : W2.cell? ⟨w.heap.size, 2, none⟩ = _ := at_cell kPW 2
  have a3 : W2.drew.cell? ⟨w.heap.size, 3, none⟩ = _ := at_cell kPW 3
  have a3' : W2.cell? ⟨w.heap.size, 3, none⟩ = _ := at_cell kPW 3
  have a4 : W2.drew.cell? ⟨w.heap.size, 4, none⟩ = _ := at_cell kPW 4
  have a4' : W2.cell? ⟨w.heap.size, 4, none⟩ = _ := at_cell kPW 4
  have b0 : W2.drew.cell? ⟨w.heap.size + 1 + 1, 0, none⟩ = _ := at_cell kRW 0
  have b0' : W2.cell? ⟨w.heap.size + 1 + 1, 0, none⟩ = _ := at_cell kRW 0
  have b1 : W2.drew.cell? ⟨w.heap.size + 1 + 1, 1, none⟩ = _ := at_cell kRW 1
  have b1' : W2.cell? ⟨w.heap.size + 1 + 1, 1, none⟩ = _ := at_cell kRW 1
  have b2 : W2.drew.cell? ⟨w.heap.size + 1 + 1, 2, none⟩ = _ := at_cell kRW 2
  have b2' : W2.cell? ⟨w.heap.size + 1 + 1, 2, none⟩ = _ := at_cell kRW 2
  have b3 : W2.drew.cell? ⟨w.heap.size + 1 + 1, 3, none⟩ = _ := at_cell kRW 3
  have b3' : W2.cell? ⟨w.heap.size + 1 + 1, 3, none⟩ = _ := at_cell kRW 3
  have b4 : W2.drew.cell? ⟨w.heap.size + 1 + 1, 4, none⟩ = _ := at_cell kRW 4
  have b4' : W2.cell? ⟨w.heap.size + 1 + 1, 4, none⟩ = _ := at_cell kRW 4
  have c0 : W2.drew.frozen? ⟨w.heap.size + 1 + 1, 0, none⟩ = _ := at_open kRW 0
  have c0' : W2.frozen? ⟨w.heap.size + 1 + 1, 0, none⟩ = _ := at_open kRW 0
  have c1 : W2.drew.frozen? ⟨w.heap.size + 1 + 1, 1, none⟩ = _ := at_open kRW 1
  have c1' : W2.frozen? ⟨w.heap.size + 1 + 1, 1, none⟩ = _ := at_open kRW 1
  have c2 : W2.drew.frozen? ⟨w.heap.size + 1 + 1, 2, none⟩ = _ := at_open kRW 2
  have c2' : W2.frozen? ⟨w.heap.size + 1 + 1, 2, none⟩ = _ := at_open kRW 2
  have c3 : W2.drew.frozen? ⟨w.heap.size + 1 + 1, 3, none⟩ = _ := at_open kRW 3
  have c3' : W2.frozen? ⟨w.heap.size + 1 + 1, 3, none⟩ = _ := at_open kRW 3
  have c4 : W2.drew.frozen? ⟨w.heap.size + 1 + 1, 4, none⟩ = _ := at_open kRW 4
  have c4' : W2.frozen? ⟨w.heap.size + 1 + 1, 4, none⟩ = _ := at_open kRW 4
  have n1 : ¬ w.heap.size = w.heap.size + 1 + 1 := by omega
  have n2 : ¬ w.heap.size + 1 + 1 = w.heap.size := by omega
  clear kPW kRW dW
  go_region_law (fail)
  all_goals
    clear a0 a1 a2 a3 a4 b0 b1 b2 b3 b4 c0 c1 c2 c3 c4 a0' a1' a2' a3' a4' b0' b1' b2' b3' b4' c0' c1' c2' c3' c4'
    go_wp2_with fail
    exact bodyPost_ret (v := .tuple #[.agg #[.string xn, .int .i64 xz, .slice om xr.length cm, .bool xf, .int .i64 E], .int .i64 E]) (by first | (simp [results, Tryz.results81, go_sem, at_cell HS.out.1]; done) | (simp [results, Tryz.results81, go_sem, at_cell HS2.out.1]; done)) rfl ⟨rfl, by first | exact bw_drew HS.out.2.2 | exact HS2.out.2.2 | exact HS.out.2.2⟩
end Go.Proofs.YtcefcglonooelaaGreatDoor

