/-
  Contracts and plain laws, one chapter behind the other.
-/
import Derived.Test.YtpmoefagpglddaaM02
import Derived.Test.YtpmoefagpglddaaM03
import Derived.Test.YtpmoefagpglddaaM04
namespace Go.Proofs.Ytpmoefagpglddaa
open Go.RowKit

set_option linter.unusedVariables false


theorem Upto.row {c n : Nat} {w X X' : World} (h : Upto c w X) (u : Upto n X X') (hn : w.heap.size ≤ n) : Upto c w X' :=
  ⟨u.os.trans h.os, u.tape.trans h.tape, u.output.trans h.output, Nat.le_trans h.size u.size, fun k hk hc => (u.block k (Nat.lt_of_lt_of_le hk h.size) (by omega)).trans (h.block k hk hc)⟩

theorem Cur.row {c n : Nat} {X X' : World} {ad : Option Addr} {len cap : Nat} (h : Cur X c ad len cap) (u : Upto n X X') (hn : c < n) : Cur X' c ad len cap := h.same (u.toBelow h.lt (by omega))

/-- While a memo is drawn: its box at nM, the answer's at the start's end; it is right. -/
structure MemSt (c : Nat) (x : Option Addr) (len cap nM : Nat) (w W : World) (o1 : Option Addr) (c1 : Nat) (o2 : Option Addr) (c2 : Nat) (ts : List Int) (rs : List (Int × Int)) : Prop where
  kB : W.heap[nM]? = some (.cells #[.slice o1 ts.length c1, .slice o2 rs.length c2] 27 (0, 0))
  kR : W.heap[w.heap.size]? = some (.cells #[.slice none 0 0, .slice none 0 0] 27 (0, 0))
  kc : Cur W c x len cap
  u : Upto c w W
  lt : c < w.heap.size
  nb : w.heap.size < nM
  own : OwnM w.heap.size W (.slice o1 ts.length c1) (.slice o2 rs.length c2) ts rs
  ok : memOk ts rs = true

theorem MemSt.step {c nM : Nat} {x : Option Addr} {len cap : Nat} {w W W' : World} {o1 : Option Addr} {c1 : Nat} {o2 : Option Addr} {c2 : Nat} {ts : List Int} {rs : List (Int × Int)} (h : MemSt c x len cap nM w W o1 c1 o2 c2 ts rs) (u : Upto c W W') (kc : Cur W' c x len cap) : MemSt c x len cap nM w W' o1 c1 o2 c2 ts rs := by
  have hlt := h.lt
  have hnb := h.nb
  exact ⟨(u.block _ (heap_lt h.kB) (by omega)).trans h.kB, (u.block _ (heap_lt h.kR) (by omega)).trans h.kR, kc, h.u.trans u, h.lt, h.nb, h.own.upto u h.lt, h.ok⟩

theorem noted_ok {ts : List Int} {rs : List (Int × Int)} (h : memOk ts rs = true) (client tag : Int) (r : Int × Int) : memOk (notedM ts rs client tag r).1.1 (notedM ts rs client tag r).1.2 = true := by
  unfold notedM
  rw [if_pos h]
  split
  · rename_i h2
    exact memOk_set h h2.1 h2.2
  · exact h

/-- What is drawn: some memo that is read. -/
def MemEnd (c : Nat) (x : Option Addr) (len cap nM : Nat) (w W : World) : Prop := ∃ (o1 : Option Addr) (n1 c1 : Nat) (o2 : Option Addr) (n2 c2 : Nat) (ts : List Int) (rs : List (Int × Int)),
  W.heap[nM]? = some (.cells #[.slice o1 n1 c1, .slice o2 n2 c2] 27 (0, 0)) ∧ W.heap[w.heap.size]? = some (.cells #[.slice none 0 0, .slice none 0 0] 27 (0, 0)) ∧ Cur W c x len cap ∧ Upto c w W ∧ RM W.heap.size W (.slice o1 n1 c1) (.slice o2 n2 c2) ts rs ∧ (∀ g, (Value.slice o1 n1 c1).ownBlock = some g → w.heap.size < g) ∧ (∀ g, (Value.slice o2 n2 c2).ownBlock = some g → w.heap.size < g)

theorem own_gt {w : World} {base k n : Nat} {e t : TypeId} {v : Value} {xs : List Value} {cs : Array Value} (h : w.ownsRow base e k v n xs) (k0 : w.heap[base]? = some (.cells cs t (0, 0))) (ht : t ≠ e) : ∀ g, v.ownBlock = some g → base < g := fun g hg => by
  have h1 := (h.lt g hg).1
  have h2 := own_not_box h k0 ht
  rw [hg] at h2
  have h3 : g ≠ base := fun e => h2 (by rw [e])
  omega

theorem MemSt.end {c nM : Nat} {x : Option Addr} {len cap : Nat} {w W : World} {o1 : Option Addr} {c1 : Nat} {o2 : Option Addr} {c2 : Nat} {ts : List Int} {rs : List (Int × Int)} (h : MemSt c x len cap nM w W o1 c1 o2 c2 ts rs) : MemEnd c x len cap nM w W :=
  ⟨o1, _, c1, o2, _, c2, ts, rs, h.kB, h.kR, h.kc, h.u, h.own.reads, own_gt h.own.t h.kR (by decide), own_gt h.own.r h.kR (by decide)⟩

theorem Upto.undr {c : Nat} {w w' : World} (u : Upto c w.drew w') : Upto c w w' := ⟨u.os, u.tape, u.output, u.size, u.block⟩

theorem Reads.uptoM {B c : Nat} {w w' : World} {v : Value} {xs : List Value} (h : Reads B w v xs) (u : Upto c w w') (hB : B ≤ w.heap.size) (hc : v.ownBlock ≠ some c) : Reads B w' v xs := by
  obtain ⟨o, cap, rfl, hm, hc', hr⟩ := h
  refine ⟨o, cap, rfl, hm, fun i x hi => ?_, hr⟩
  obtain ⟨g, off, rfl, hg, hx⟩ := hc' i x hi
  exact ⟨g, off, rfl, hg, (u.cell (p := ⟨g, off + i, Option.none⟩) (Nat.lt_of_lt_of_le hg hB) (fun e => hc (by simp only at e; rw [e]; rfl))).trans hx⟩

theorem RM.box {b : Nat} {W W' : World} {v1 v2 : Value} {ts : List Int} {rs : List (Int × Int)} (h : RM W.heap.size W v1 v2 ts rs) (h1 : v1.ownBlock ≠ some b) (h2 : v2.ownBlock ≠ some b) (u : Upto b W W') : RM W'.heap.size W' v1 v2 ts rs :=
  ⟨(h.t.uptoM u (Nat.le_refl _) h1).mono u.size, (h.r.upto u (Nat.le_refl _) h2).mono u.size⟩

theorem own_cap {w : World} {base k g n cap m : Nat} {e : TypeId} {xs : List Value} (h : w.ownsRow base e k (.slice (some ⟨g, 0, none⟩) n cap) m xs) : n ≤ cap := by
  rcases h.2 with ⟨h', _⟩ | ⟨g', cap', cur, h', _, _, hnc, _⟩
  · cases h'
  · simp only [Value.slice.injEq] at h'
    obtain ⟨-, rfl, rfl⟩ := h'
    exact hnc

/-- A tag is bent. -/
theorem MemSt.tag {c nM g1 : Nat} {x : Option Addr} {len cap : Nat} {w W : World} {c1 : Nat} {o2 : Option Addr} {c2 : Nat} {ts : List Int} {rs : List (Int × Int)} (h : MemSt c x len cap nM w W (some ⟨g1, 0, none⟩) c1 o2 c2 ts rs) (z : Int) : MemEnd c x len cap nM w (W.setCell ⟨g1, 0, none⟩ (.int .i64 z)) := by
  have hlc := h.lt
  have l1 := h.own.t.lt g1 rfl
  have n1 : nM ≠ g1 := fun e => own_not_box h.own.t h.kB (by decide) (by rw [e]; rfl)
  have r1 : w.heap.size ≠ g1 := fun e => own_not_box h.own.t h.kR (by decide) (by rw [e]; rfl)
  have u : Upto g1 W (W.setCell ⟨g1, 0, none⟩ (.int .i64 z)) := (Upto.refl _ _).setCell ⟨g1, 0, none⟩ (.inl rfl) _
  have hst := (h.own.t.stored 0 (.int .i64 z)).1
  rw [← List.map_set] at hst
  have hr := own_rng_not h.own.r (fun g hg hv => u.block g hg (fun e => h.own.apart g1 rfl (by rw [← e]; exact hv)))
  have kR := (u.block _ (heap_lt h.kR) r1).trans h.kR
  have own : OwnM w.heap.size (W.setCell ⟨g1, 0, none⟩ (.int .i64 z)) (.slice (some ⟨g1, 0, none⟩) ts.length c1) (.slice o2 rs.length c2) (ts.set 0 z) rs := ⟨by rw [List.length_set]; exact hst, hr⟩
  exact ⟨_, _, _, _, _, _, _, _, (u.block _ (heap_lt h.kB) n1).trans h.kB, kR, h.kc.row u (by omega), h.u.row u l1.1, own.reads, own_gt own.t kR (by decide), own_gt own.r kR (by decide)⟩

/-- A reply is bent. -/
theorem MemSt.rep {c nM g2 : Nat} {x : Option Addr} {len cap : Nat} {w W : World} {o1 : Option Addr} {c1 c2 : Nat} {ts : List Int} {rs : List (Int × Int)} (h : MemSt c x len cap nM w W o1 c1 (some ⟨g2, 0, none⟩) c2 ts rs) (h4 : rs.length = 4) (a v : Int) : MemEnd c x len cap nM w ((W.setCell ⟨g2, 2, none⟩ (.int .i64 a)).setCell ⟨g2, 3, none⟩ (.int .i64 v)) := by
  have hlc := h.lt
  have l1 := h.own.r.lt g2 rfl
  have n1 : nM ≠ g2 := fun e => own_not_box h.own.r h.kB (by decide) (by rw [e]; rfl)
  have r1 : w.heap.size ≠ g2 := fun e => own_not_box h.own.r h.kR (by decide) (by rw [e]; rfl)
  have u : Upto g2 W ((W.setCell ⟨g2, 2, none⟩ (.int .i64 a)).setCell ⟨g2, 3, none⟩ (.int .i64 v)) := ((Upto.refl _ _).setCell ⟨g2, 2, none⟩ (.inl rfl) _).setCell ⟨g2, 3, none⟩ (.inl rfl) _
  have hst := own_rep h.own.r 1 (by omega) a v
  have ht := own_rng_not h.own.t (fun g hg hv => u.block g hg (fun e => h.own.apart g hv (by rw [e]; rfl)))
  have kR := (u.block _ (heap_lt h.kR) r1).trans h.kR
  have own : OwnM w.heap.size ((W.setCell ⟨g2, 2, none⟩ (.int .i64 a)).setCell ⟨g2, 3, none⟩ (.int .i64 v)) (.slice o1 ts.length c1) (.slice (some ⟨g2, 0, none⟩) rs.length c2) ts (rs.set 1 (a, v)) := ⟨ht, hst⟩
  exact ⟨_, _, _, _, _, _, _, _, (u.block _ (heap_lt h.kB) n1).trans h.kB, kR, h.kc.row u (by omega), h.u.row u l1.1, own.reads, own_gt own.t kR (by decide), own_gt own.r kR (by decide)⟩

/-- The first tag is left out. -/
theorem MemSt.cut1 {c nM g1 : Nat} {x : Option Addr} {len cap : Nat} {w W : World} {c1 : Nat} {o2 : Option Addr} {c2 : Nat} {ts : List Int} {rs : List (Int × Int)} (h : MemSt c x len cap nM w W (some ⟨g1, 0, none⟩) c1 o2 c2 ts rs) (h4 : ts.length = 4) : MemEnd c x len cap nM w (W.setCell ⟨nM, 0, none⟩ (.slice (some ⟨g1, 1, none⟩) (ts.length - 1) (c1 - 1))) := by
  have hlc := h.lt
  have hnb := h.nb
  have l1 := h.own.t.lt g1 rfl
  have hcap := own_cap h.own.t
  have u : Upto nM W (W.setCell ⟨nM, 0, none⟩ (.slice (some ⟨g1, 1, none⟩) (ts.length - 1) (c1 - 1))) := (Upto.refl _ _).setCell ⟨nM, 0, none⟩ (.inl rfl) _
  have kR := (u.block _ (heap_lt h.kR) (by omega)).trans h.kR
  have own := h.own.box h.kB u
  have rd := own.reads
  have rt : Reads (W.setCell ⟨nM, 0, none⟩ (.slice (some ⟨g1, 1, none⟩) (ts.length - 1) (c1 - 1))).heap.size (W.setCell ⟨nM, 0, none⟩ (.slice (some ⟨g1, 1, none⟩) (ts.length - 1) (c1 - 1))) (.slice (some ⟨g1, 1, none⟩) (ts.length - 1) (c1 - 1)) ((ts.drop 1).map (Value.int .i64)) := by
    obtain ⟨o, cap', e, hm, hc, -⟩ := rd.t
    simp only [Value.slice.injEq] at e
    obtain ⟨rfl, -, rfl⟩ := e
    refine ⟨some ⟨g1, 1, none⟩, c1 - 1, by simp, by simp at hm ⊢; omega, fun j v hj => ?_, by simp; omega⟩
    have hj' : (ts.map (Value.int .i64))[j + 1]? = some v := by
      rw [List.getElem?_map] at hj ⊢
      rw [List.getElem?_drop] at hj
      rwa [Nat.add_comm] at hj
    obtain ⟨g, off, e, hg, hx⟩ := hc (j + 1) v hj'
    simp only [Option.some.injEq, Addr.mk.injEq, and_true] at e
    obtain ⟨rfl, rfl⟩ := e
    exact ⟨g1, 1, rfl, hg, by rw [show 1 + j = 0 + (j + 1) by omega]; exact hx⟩
  have n0 : ∀ g, (Value.slice (some ⟨g1, 1, none⟩) (ts.length - 1) (c1 - 1)).ownBlock = some g → w.heap.size < g := fun g e => own_gt h.own.t h.kR (by decide) g e
  exact ⟨_, _, _, _, _, _, _, _, set_0 h.kB _, kR, h.kc.row u (by omega), h.u.row u (by omega), ⟨rt, rd.r⟩, n0, own_gt own.r kR (by decide)⟩

theorem four_lit (a b c d : Int) (k : Nat) (hk : k < 4) : (#[Value.int .i64 a, .int .i64 b, .int .i64 c, .int .i64 d] : Array Value)[k]? = some (.int .i64 ([a, b, c, d].getD k 0)) := by
  have h : k = 0 ∨ k = 1 ∨ k = 2 ∨ k = 3 := by omega
  rcases h with rfl | rfl | rfl | rfl <;> rfl

/-- One round: a memo noted anew. -/
def RoundPost (c : Nat) (x : Option Addr) (len cap nM : Nat) (w W : World) : Prop := ∃ o1 c1 o2 c2 ts rs, MemSt c x len cap nM w W o1 c1 o2 c2 ts rs

set_option maxRecDepth 100000 in
set_option maxHeartbeats 6400000 in
theorem draw12_any (c : Nat) (x : Option Addr) (len cap : Nat) (w : World) (hc : Cur w c x len cap) :
    Calls Try.prog 27 #[.pointer (some ⟨c, 0, none⟩)] w fun e w' => ∃ (v1 v2 : Value) (ts : List Int) (rs : List (Int × Int)), e = .returned (.agg #[v1, v2]) ∧ RM w'.heap.size w' v1 v2 ts rs ∧ (∀ g, v1.ownBlock = some g → w.heap.size < g) ∧ (∀ g, v2.ownBlock = some g → w.heap.size < g) ∧ Upto c w w' ∧ Cur w' c x len cap := by
  have hlt := hc.lt
  obtain ⟨W0, hW0, kR, d0, z0⟩ := box1 w #[.slice none 0 0, .slice none 0 0] 27
  have kc : Cur W0 c x len cap := hc.below d0
  have u : Upto c w W0 := Upto.ofBelow d0
  have HW0 : Hid (W0 = _) := hW0
  have sR : w.heap.size < W0.heap.size := by omega
  clear hW0 hc d0 z0
  go_enter Try.func27, Try.ntmps27
  go_upto_region 1 with fail
  rw [← HW0.out]
  clear HW0
  go_wp2_with fail
  refine (specNewMemo_any _).mono ?_
  rintro e w1 ⟨u1, u2, rfl, own, b1⟩
  obtain ⟨o1, c1, hu1⟩ := own_slice own.t
  obtain ⟨o2, c2, hu2⟩ := own_slice own.r
  have hu1' : u1 = .slice o1 4 c1 := hu1
  have hu2' : u2 = .slice o2 4 c2 := hu2
  subst hu1' hu2'
  clear hu1 hu2
  have kR1 := (b1.block _ sR).trans kR
  obtain ⟨W2, hW2, kB, b2, z2⟩ := box1 w1 #[.slice o1 4 c1, .slice o2 4 c2] 27
  have HW2 : Hid (W2 = _) := hW2
  have st0 : RoundPost c x len cap w1.heap.size w W2 := ⟨o1, c1, o2, c2, [0, 0, 0, 0], [(0, 0), (0, 0), (0, 0), (0, 0)], kB, (b2.block _ (heap_lt kR1)).trans kR1, (kc.below b1).below b2, (u.below b1).below b2, hlt, Nat.lt_of_lt_of_le sR b1.size, (own.below b2).mono (Nat.le_of_lt sR), memOk_zero⟩
  clear hW2 z2 b2 kB kR1 kR own u kc sR b1
  go_upto_region 2 with fail
  rw [← HW2.out]
  clear HW2
  generalize w1.heap.size = nM at *
  clear w1 W0
  obtain ⟨o1, c1, o2, c2, ts, rs, st⟩ := st0
  go_wp2_with fail
  refine (below_any c x len cap 7 _ (by omega) st.kc).mono ?_
  rintro e w3 ⟨n, rfl, hn, u3, k3⟩
  have st3 : RoundPost c x len cap nM w w3 := ⟨o1, c1, o2, c2, ts, rs, st.step u3 k3⟩
  have hn7 : n < 7 := hn.2.1 (by omega)
  have hn0 := hn.1
  clear st u3 k3 hn
  clear o1 c1 o2 c2 ts rs W2
  go_wp2_with fail
  go_loopw [4] (fun i wr => ∃ q : Int, 0 ≤ q ∧ q < 7 ∧ i = .int .i64 q ∧ RoundPost c x len cap nM w wr) (fun i _ => (intOf i).toNat)
  case atStart => exact ⟨n, hn0, hn7, rfl, st3⟩
  case round =>
    clear st3 hn0 hn7
    obtain ⟨q, hq0, hq7, rfl, o1, c1, o2, c2, ts, rs, st⟩ := hrel
    by_cases hq : 0 < q
    · go_upto_region 5 with fail
      have hcM : c < nM := by have := st.lt; have := st.nb; omega
      obtain ⟨R, hR0⟩ : ∃ R : Nat → Value → World → Prop, R = fun j v X => match j with
        | 0 => v = .agg #[.slice o1 ts.length c1, .slice o2 rs.length c2]
        | 1 => v = .pointer (some ⟨c, 0, none⟩)
        | 2 => ∃ k : Int, v = .int .i64 k
        | 3 => v = .pointer (some ⟨c, 0, none⟩)
        | 4 => ∃ k : Int, v = .int .i64 k
        | 5 => ∃ k : Int, v = .int .i64 k
        | 6 => v = .pointer (some ⟨c, 0, none⟩)
        | 7 => ∃ k l : Int, v = .agg #[.int .i64 k, .int .i64 l]
        | 8 => ∃ (p1 : Option Addr) (d1 : Nat) (p2 : Option Addr) (d2 : Nat) (ts' : List Int) (rs' : List (Int × Int)) (bb : Bool), v = .tuple #[.agg #[.slice p1 ts'.length d1, .slice p2 rs'.length d2], .bool bb] ∧ OwnM w.heap.size X (.slice p1 ts'.length d1) (.slice p2 rs'.length d2) ts' rs' ∧ memOk ts' rs' = true
        | 9 => ∃ (p1 : Option Addr) (d1 : Nat) (p2 : Option Addr) (d2 : Nat) (ts' : List Int) (rs' : List (Int × Int)) (bb : Bool), v = .tuple #[.agg #[.slice p1 ts'.length d1, .slice p2 rs'.length d2], .bool bb] ∧ OwnM w.heap.size X (.slice p1 ts'.length d1) (.slice p2 rs'.length d2) ts' rs' ∧ memOk ts' rs' = true
        | 10 => ∃ (p1 : Option Addr) (d1 : Nat) (p2 : Option Addr) (d2 : Nat) (ts' : List Int) (rs' : List (Int × Int)) (bb : Bool), v = .agg #[.slice p1 ts'.length d1, .slice p2 rs'.length d2] ∧ OwnM w.heap.size X (.slice p1 ts'.length d1) (.slice p2 rs'.length d2) ts' rs' ∧ memOk ts' rs' = true
        | _ => True := ⟨_, rfl⟩
      have hR : Hid _ := hR0
      clear hR0
      have RMO : ∀ X X', Upto c X X' → ∀ j v, R j v X → R j v X' := fun X X' hb j v => by
        rw [hR.out]
        match j with
        | 0 => exact id
        | 1 => exact id
        | 2 => exact id
        | 3 => exact id
        | 4 => exact id
        | 5 => exact id
        | 6 => exact id
        | 7 => exact id
        | 8 => exact fun ⟨p1, d1, p2, d2, ts', rs', bb, e, ow, ok⟩ => ⟨p1, d1, p2, d2, ts', rs', bb, e, ow.upto hb st.lt, ok⟩
        | 9 => exact fun ⟨p1, d1, p2, d2, ts', rs', bb, e, ow, ok⟩ => ⟨p1, d1, p2, d2, ts', rs', bb, e, ow.upto hb st.lt, ok⟩
        | 10 => exact fun ⟨p1, d1, p2, d2, ts', rs', bb, e, ow, ok⟩ => ⟨p1, d1, p2, d2, ts', rs', bb, e, ow.upto hb st.lt, ok⟩
        | 11 => exact id
        | 12 => exact id
        | _ + 13 => exact id
      refine wp_region_inv (I := RYs _ 12 3 22 R _ wr c x len cap) (by kernel_rfl) (RYs.start _ 12 3 22 _ _ wr st.kc) ?_ ?_
      · intro L a y i hL hD hi h
        obtain ⟨X, h⟩ := h
        have hin : i < 13 := (ready_mem hi).1
        have hnot := (ready_mem hi).2.1
        have hc13 : i = 0 ∨ i = 1 ∨ i = 2 ∨ i = 3 ∨ i = 4 ∨ i = 5 ∨ i = 6 ∨ i = 7 ∨ i = 8 ∨ i = 9 ∨ i = 10 ∨ i = 11 ∨ i = 12 := by omega
        rcases hc13 with rfl | rfl | rfl | rfl | rfl | rfl | rfl | rfl | rfl | rfl | rfl | rfl | rfl
        · have hn : L.getD 12 false = false := hD.no 12 [10, 9, 8, 0] hnot (by kernel_rfl) rfl
          obtain rfl := h.pre hn
          refine wpOp_of rfl rfl (op_load 27 3 rfl nM (h.old 3 (by kernel_rfl)) _ 27 (0, 0) ((h.bel.block _ (heap_lt st.kB) (by omega)).trans st.kB) _ Try.underlying27 rfl (by kernel_rfl) ?_)
          exact h.val 0 13 _ y (by decide) (by kernel_rfl) (of_decide_eq_true (by kernel_rfl)) (by kernel_rfl) (by kernel_rfl) hn (Upto.refl _ _) h.cur (by rw [hR.out]; exact rfl) (fun _ _ q => q)
        · refine wpOp_of rfl rfl (op_move 0 rfl ?_)
          exact h.put 1 14 _ (by decide) (by kernel_rfl) (of_decide_eq_true (by kernel_rfl)) (by kernel_rfl) (by kernel_rfl) (by decide) (by decide) (by rw [hR.out]; exact h.old 0 (by kernel_rfl))
        · have hn : L.getD 12 false = false := hD.no 12 [10, 9, 8, 2] hnot (by kernel_rfl) rfl
          obtain rfl := h.pre hn
          have q1 := h.rel 1 14 (ready_dep hi (by kernel_rfl)) (by kernel_rfl)
          rw [hR.out] at q1
          have q1' : a.tmps.getD 14 undef = .pointer (some ⟨c, 0, none⟩) := q1
          clear q1
          refine wpOp_of rfl rfl ?_
          unfold Oper.wp
          go_simp
          go_at_call 29
          refine (below_any c x len cap 4 _ (by omega) h.cur).mono ?_
          rintro e x1 ⟨k, rfl, -, hb, hcu⟩
          exact h.val 2 15 _ x1 (by decide) (by kernel_rfl) (of_decide_eq_true (by kernel_rfl)) (by kernel_rfl) (by kernel_rfl) hn hb hcu (by rw [hR.out]; exact ⟨k, rfl⟩) (RMO _ _ hb)
        · refine wpOp_of rfl rfl (op_move 0 rfl ?_)
          exact h.put 3 16 _ (by decide) (by kernel_rfl) (of_decide_eq_true (by kernel_rfl)) (by kernel_rfl) (by kernel_rfl) (by decide) (by decide) (by rw [hR.out]; exact h.old 0 (by kernel_rfl))
        · have hn : L.getD 12 false = false := hD.no 12 [10, 9, 8, 5, 4] hnot (by kernel_rfl) rfl
          obtain rfl := h.pre hn
          have q1 := h.rel 3 16 (ready_dep hi (by kernel_rfl)) (by kernel_rfl)
          rw [hR.out] at q1
          have q1' : a.tmps.getD 16 undef = .pointer (some ⟨c, 0, none⟩) := q1
          clear q1
          refine wpOp_of rfl rfl ?_
          unfold Oper.wp
          go_simp
          go_at_call 29
          refine (below_any c x len cap 9 _ (by omega) h.cur).mono ?_
          rintro e x1 ⟨k, rfl, -, hb, hcu⟩
          exact h.val 4 17 _ x1 (by decide) (by kernel_rfl) (of_decide_eq_true (by kernel_rfl)) (by kernel_rfl) (by kernel_rfl) hn hb hcu (by rw [hR.out]; exact ⟨k, rfl⟩) (RMO _ _ hb)
        · have q1 := h.rel 4 17 (ready_dep hi (by kernel_rfl)) (by kernel_rfl)
          rw [hR.out] at q1
          obtain ⟨k, e17⟩ := q1
          refine wpOp_of rfl rfl ?_
          unfold Oper.wp
          go_simp
          exact h.put 5 18 _ (by decide) (by kernel_rfl) (of_decide_eq_true (by kernel_rfl)) (by kernel_rfl) (by kernel_rfl) (by decide) (by decide) (by rw [hR.out]; exact ⟨_, rfl⟩)
        · refine wpOp_of rfl rfl (op_move 0 rfl ?_)
          exact h.put 6 19 _ (by decide) (by kernel_rfl) (of_decide_eq_true (by kernel_rfl)) (by kernel_rfl) (by kernel_rfl) (by decide) (by decide) (by rw [hR.out]; exact h.old 0 (by kernel_rfl))
        · have hn : L.getD 12 false = false := hD.no 12 [10, 9, 8, 7] hnot (by kernel_rfl) rfl
          obtain rfl := h.pre hn
          have q1 := h.rel 6 19 (ready_dep hi (by kernel_rfl)) (by kernel_rfl)
          rw [hR.out] at q1
          have q1' : a.tmps.getD 19 undef = .pointer (some ⟨c, 0, none⟩) := q1
          clear q1
          refine wpOp_of rfl rfl ?_
          unfold Oper.wp
          go_simp
          go_at_call 30
          refine (draw10_any c x len cap _ h.cur).mono ?_
          rintro e x1 ⟨k, l, rfl, -, -, hb, hcu⟩
          exact h.val 7 20 _ x1 (by decide) (by kernel_rfl) (of_decide_eq_true (by kernel_rfl)) (by kernel_rfl) (by kernel_rfl) hn hb hcu (by rw [hR.out]; exact ⟨k, l, rfl⟩) (RMO _ _ hb)
        · have hn : L.getD 12 false = false := hD.no 12 [10, 9, 8] hnot (by kernel_rfl) rfl
          obtain rfl := h.pre hn
          have q0 := h.rel 0 13 (ready_dep hi (by kernel_rfl)) (by kernel_rfl)
          rw [hR.out] at q0
          have q0' : a.tmps.getD 13 undef = .agg #[.slice o1 ts.length c1, .slice o2 rs.length c2] := q0
          clear q0
          have q2 := h.rel 2 15 (ready_dep hi (by kernel_rfl)) (by kernel_rfl)
          rw [hR.out] at q2
          obtain ⟨k2, e2⟩ := q2
          have q5 := h.rel 5 18 (ready_dep hi (by kernel_rfl)) (by kernel_rfl)
          rw [hR.out] at q5
          obtain ⟨k5, e5⟩ := q5
          have q7 := h.rel 7 20 (ready_dep hi (by kernel_rfl)) (by kernel_rfl)
          rw [hR.out] at q7
          obtain ⟨k7, l7, e7⟩ := q7
          refine wpOp_of rfl rfl ?_
          unfold Oper.wp
          go_simp
          go_at_call 14
          refine (specNoted_any _ _ ts rs k2 k5 k7 l7 _ (st.own.upto h.bel st.lt).reads).mono ?_
          have hok := noted_ok st.ok k2 k5 (k7, l7)
          generalize notedM ts rs k2 k5 (k7, l7) = D at hok ⊢
          obtain ⟨⟨ts', rs'⟩, bb⟩ := D
          simp only at hok ⊢
          rintro e x1 ⟨s1, s2, rfl, os, hb⟩
          obtain ⟨p1, d1, hp1⟩ := own_slice os.t
          obtain ⟨p2, d2, hp2⟩ := own_slice os.r
          subst hp1 hp2
          have hbU : Upto c y x1 := Upto.ofBelow hb
          exact h.val 8 21 _ x1 (by decide) (by kernel_rfl) (of_decide_eq_true (by kernel_rfl)) (by kernel_rfl) (by kernel_rfl) hn hbU (h.cur.below hb) (by rw [hR.out]; exact ⟨p1, d1, p2, d2, ts', rs', bb, rfl, os.mono (Nat.le_trans st.u.size h.bel.size), hok⟩) (RMO _ _ hbU)
        · have q1 := h.rel 8 21 (ready_dep hi (by kernel_rfl)) (by kernel_rfl)
          rw [hR.out] at q1
          refine wpOp_of rfl rfl (op_move 21 rfl ?_)
          exact h.put 9 12 _ (by decide) (by kernel_rfl) (of_decide_eq_true (by kernel_rfl)) (by kernel_rfl) (by kernel_rfl) (by decide) (by decide) (by rw [hR.out]; exact q1)
        · have hn : L.getD 12 false = false := hD.no 12 [10] hnot (by kernel_rfl) rfl
          obtain rfl := h.pre hn
          have q1 := h.rel 9 12 (ready_dep hi (by kernel_rfl)) (by kernel_rfl)
          rw [hR.out] at q1
          obtain ⟨p1, d1, p2, d2, ts', rs', bb, e12, ow, ok⟩ := q1
          refine wpOp_of rfl rfl ?_
          unfold Oper.wp
          go_simp
          exact h.val 10 22 _ y (by decide) (by kernel_rfl) (of_decide_eq_true (by kernel_rfl)) (by kernel_rfl) (by kernel_rfl) hn (Upto.refl _ _) h.cur (by rw [hR.out]; exact ⟨p1, d1, p2, d2, ts', rs', bb, rfl, ow, ok⟩) (fun _ _ q => q)
        · have q1 := h.rel 9 12 (ready_dep hi (by kernel_rfl)) (by kernel_rfl)
          rw [hR.out] at q1
          obtain ⟨p1, d1, p2, d2, ts', rs', bb, e12, ow, ok⟩ := q1
          refine wpOp_of rfl rfl ?_
          unfold Oper.wp
          go_simp
          exact h.put 11 23 _ (by decide) (by kernel_rfl) (of_decide_eq_true (by kernel_rfl)) (by kernel_rfl) (by kernel_rfl) (by decide) (by decide) (by rw [hR.out]; exact trivial)
        · have hn := not_done hnot
          obtain rfl := h.pre hn
          have q1 := h.rel 10 22 (ready_dep hi (by kernel_rfl)) (by kernel_rfl)
          rw [hR.out] at q1
          obtain ⟨p1, d1, p2, d2, ts', rs', bb, eV, ow, ok⟩ := q1
          obtain ⟨zs, hzs⟩ : ∃ zs : Array Value, zs = #[.slice p1 ts'.length d1, .slice p2 rs'.length d2] := ⟨_, rfl⟩
          rw [← hzs] at eV
          have hz1 : (Try.prog.info? 27).map (·.size) = some zs.size := by rw [hzs]; kernel_rfl
          have hz2 : (#[.slice o1 ts.length c1, .slice o2 rs.length c2] : Array Value).size = zs.size := by rw [hzs]; rfl
          have hz3 : zs.all (·.oneCell') = true := by rw [hzs]; simp [Value.oneCell']
          refine wpOp_of rfl rfl (op_store 27 3 22 rfl rfl nM (h.old 3 (by kernel_rfl)) zs eV #[.slice o1 ts.length c1, .slice o2 rs.length c2] 27 ((h.bel.block _ (heap_lt st.kB) (by omega)).trans st.kB) hz1 hz2 hz3 ?_)
          exact h.store (by rw [hL]; exact of_decide_eq_true (by kernel_rfl)) hn (by kernel_rfl) (h.old 3 (by kernel_rfl)) eV
      · intro L a y hL hD hr h
        obtain ⟨X, h⟩ := h
        have hall := all_done hL hr (by kernel_rfl)
        obtain ⟨n, zs, eB, eV, rfl⟩ := h.fin (hall 12 (of_decide_eq_true (by kernel_rfl)))
        have eB0 : a.tmps.getD 3 undef = .pointer (some ⟨nM, 0, none⟩) := h.old 3 (by kernel_rfl)
        have qV := h.rel 10 22 (hall 10 (of_decide_eq_true (by kernel_rfl))) (by kernel_rfl)
        rw [hR.out] at qV
        obtain ⟨p1, d1, p2, d2, ts', rs', bb, eV', ow, ok⟩ := qV
        have en : (Value.pointer (some ⟨n, 0, none⟩)) = .pointer (some ⟨nM, 0, none⟩) := eB.symm.trans eB0
        have ez : Value.agg zs = .agg #[.slice p1 ts'.length d1, .slice p2 rs'.length d2] := eV.symm.trans eV'
        simp only [Value.pointer.injEq, Option.some.injEq, Addr.mk.injEq, and_true] at en
        simp only [Value.agg.injEq] at ez
        subst en ez
        have kBX := (h.bel.block _ (heap_lt st.kB) (by omega)).trans st.kB
        have kRX := (h.bel.block _ (heap_lt st.kR) (by have := st.lt; omega)).trans st.kR
        have uX := st.u.trans h.bel
        have HX : Hid (RoundPost c x len cap n w (X.setRow n #[.slice p1 ts'.length d1, .slice p2 rs'.length d2])) := ⟨p1, d1, p2, d2, ts', rs', setRow_row kBX, (row_upto.block _ (heap_lt kRX) (by have := st.nb; omega)).trans kRX, h.cur.row row_upto hcM, uX.row row_upto (by have := st.nb; omega), st.lt, st.nb, ow.box kBX row_upto, ok⟩
        have hfr := h.frame [12, 13, 14, 15, 16, 17, 18, 19, 20, 21, 22, 23] (by kernel_rfl)
        obtain ⟨f, hf⟩ : ∃ f : Nat → Value, (fun s => a.tmps.getD s undef) = f := ⟨_, rfl⟩
        rw [hf] at hfr
        clear hf h hall hr hD hL eB eV eB0 eV' ow ok kBX kRX uX RMO hR R st
        subst hfr
        simp only [Act.puts, Act.put, List.setIfInBounds_toArray, List.set_cons_succ, List.set_cons_zero]
        generalize f 12 = ux12
        generalize f 13 = ux13
        generalize f 14 = ux14
        generalize f 15 = ux15
        generalize f 16 = ux16
        generalize f 17 = ux17
        generalize f 18 = ux18
        generalize f 19 = ux19
        generalize f 20 = ux20
        generalize f 21 = ux21
        generalize f 22 = ux22
        generalize f 23 = ux23
        clear f
        show Exit.inBlock _ _ _ _ _
        go_wp2_with fail
        go_roundw
        case rel => exact ⟨q - 1, by omega, by omega, by go_num, HX.out⟩
        case measure => simp [intOf]; omega
    · have hq' : q = 0 := by omega
      subst hq'
      go_wp2_with fail
      refine (once_any c x len cap 10 _ (by omega) st.kc).mono ?_
      rintro e w4 ⟨y, rfl, u4, k4⟩
      replace st := st.step u4 k4
      clear u4 k4
      go_upto_if 25 with fail
      go_cut [] (fun wx => MemEnd c x len cap nM w wx)
      case first =>
        cases y
        · go_wp2_with fail
          go_meet
          exact st.end
        · go_wp2_with fail
          refine (below_any c x len cap 3 _ (by omega) st.kc).mono ?_
          rintro e w5 ⟨y, rfl, hy, u5, k5⟩
          replace st := st.step u5 k5
          have hy3 : y = 0 ∨ y = 1 ∨ y = 2 := by have h1 := hy.2.1 (by omega); have h2 := hy.1; omega
          clear u5 k5 hy
          obtain ⟨hl1, hl2⟩ := memOk_len st.ok
          have HL1 : Hid (ts.length = 4) := hl1
          have HL2 : Hid (rs.length = 4) := hl2
          clear hl1 hl2
          obtain ⟨g1, rfl⟩ : ∃ g1, o1 = some ⟨g1, 0, none⟩ := by
            have h := st.own.t
            rw [HL1.out] at h
            obtain ⟨g, cp, e⟩ := owns_form h
            simp only [Value.slice.injEq] at e
            exact ⟨g, e.1⟩
          obtain ⟨g2, rfl⟩ : ∃ g2, o2 = some ⟨g2, 0, none⟩ := by
            have h := st.own.r
            rw [HL2.out] at h
            obtain ⟨g, cp, e⟩ := owns_form h
            simp only [Value.slice.injEq] at e
            exact ⟨g, e.1⟩
          have hlc := st.lt
          have hnb := st.nb
          have lM := heap_lt st.kB
          have l1 := st.own.t.lt g1 rfl
          have l2 := st.own.r.lt g2 rfl
          have n1 : nM ≠ g1 := fun e => own_not_box st.own.t st.kB (by decide) (by rw [e]; rfl)
          have n2 : nM ≠ g2 := fun e => own_not_box st.own.r st.kB (by decide) (by rw [e]; rfl)
          have r1 : w.heap.size ≠ g1 := fun e => own_not_box st.own.t st.kR (by decide) (by rw [e]; rfl)
          have r2 : w.heap.size ≠ g2 := fun e => own_not_box st.own.r st.kR (by decide) (by rw [e]; rfl)
          have n12 : g2 ≠ g1 := fun e => st.own.apart g1 rfl (by rw [e]; rfl)
          have i1 : (0 : Int) < (ts.length : Int) := by have := HL1.out; omega
          have i2 : (1 : Int) < (rs.length : Int) := by have := HL2.out; omega
          rcases hy3 with rfl | rfl | rfl
          · go_wp2_with fail
            have HJ4 : ∀ (jn : Nat) (Z : Prop), (0 ≤ (jn : Int) ∧ ((0 : Int) < 4 → (jn : Int) < 4) ∧ Z) → jn < 4 := fun jn Z h => by have := h.2.1 (by decide); omega
            have HJI : ∀ jn : Nat, jn < 4 → (jn : Int) < 4 := fun jn h => by omega
            have HJ0 : ∀ jn : Nat, (0 : Int) ≤ (jn : Int) := fun jn => by omega
            have HT1 : 0 < ts.length * 1 := by have := HL1.out; omega
            have HT0 : 0 < ts.length := by have := HL1.out; omega
            have hMc : nM ≠ c := by omega
            have HKeep : ∀ X : World, X.heap[nM]? = w5.heap[nM]? → X.cell? ⟨nM, 0, none⟩ = some (.slice (some ⟨g1, 0, none⟩) ts.length c1) := fun X hX => at_cell (hX.trans st.kB) 0
            have hl5 := st.kc.lt
            have p5 := HKeep w5 rfl
            have p5d := HKeep w5.drew rfl
            have p5a := HKeep (w5.alloc (.cells #[.int .i64 (-1), .int .i64 0, .int .i64 1000, .int .i64 1001] 2)).drew (Below.heap_alloc _ _ _ lM)
            go_region_law
              ((go_simp; go_at_call 29; first
                | (refine (below_any c x len cap 4 (w5.alloc (.cells #[.int .i64 (-1), .int .i64 0, .int .i64 1000, .int .i64 1001] 2)).drew (by omega) ((st.kc.alloc _).drew)).mono ?_; rintro e w6 ⟨y6, rfl, hy6, u6, k6⟩; obtain ⟨jn, rfl⟩ := Int.eq_ofNat_of_zero_le hy6.1; have hj4 := HJ4 jn _ hy6; have hji := HJI jn hj4; have hj0 := HJ0 jn; have hz6 := (pick_cell u6.undr hl5 jn).trans (four_lit (-1) 0 1000 1001 jn hj4); have U6 : Upto c w5 w6 := ((Upto.refl c w5).alloc _).trans u6.undr; have E6 := U6.block nM lM hMc; have lM6 := Nat.lt_of_lt_of_le lM U6.size; have p6 := HKeep w6 E6; have ow6 := st.own.upto U6 st.lt; have t6 := ow6.t.cellAt 0 HT1; have tf6 := ow6.t.frozenAt 0; rw [getD_some ts 0 HT0] at t6; generalize ([-1, 0, 1000, 1001] : List Int).getD jn 0 = zz at hz6; generalize ts.getD 0 0 = yy at t6; dsimp only)
                | (refine (below_any c x len cap 4 w5.drew (by omega) st.kc.drew).mono ?_; rintro e w6 ⟨y6, rfl, hy6, u6, k6⟩; obtain ⟨jn, rfl⟩ := Int.eq_ofNat_of_zero_le hy6.1; have hj4 := HJ4 jn _ hy6; have hji := HJI jn hj4; have hj0 := HJ0 jn; have hz6 := (World.cell?_alloc_mark w6 #[.int .i64 (-1), .int .i64 0, .int .i64 1000, .int .i64 1001] 2 (0, 0) jn).trans (four_lit (-1) 0 1000 1001 jn hj4); have U6 : Upto c w5 w6 := u6.undr; have E6 := U6.block nM lM hMc; have lM6 := Nat.lt_of_lt_of_le lM U6.size; have p6 := HKeep w6 E6; have p6a := HKeep (w6.alloc (.cells #[.int .i64 (-1), .int .i64 0, .int .i64 1000, .int .i64 1001] 2)) ((Below.heap_alloc _ _ _ lM6).trans E6); have ow6 := (st.own.upto U6 st.lt).below (w' := w6.alloc (.cells #[.int .i64 (-1), .int .i64 0, .int .i64 1000, .int .i64 1001] 2)) (bw_alloc (Below.refl _ _)); have t6 := ow6.t.cellAt 0 HT1; have tf6 := ow6.t.frozenAt 0; rw [getD_some ts 0 HT0] at t6; generalize ([-1, 0, 1000, 1001] : List Int).getD jn 0 = zz at hz6; generalize ts.getD 0 0 = yy at t6; dsimp only)))
            all_goals
              have HEA : Hid _ := (st.step U6 k6).tag zz
              have HEB : Hid _ := ((st.step U6 k6).step ((Upto.refl _ _).alloc (.cells #[.int .i64 (-1), .int .i64 0, .int .i64 1000, .int .i64 1001] 2)) (k6.alloc (.cells #[.int .i64 (-1), .int .i64 0, .int .i64 1000, .int .i64 1001] 2))).tag zz
              clear st p5 p5d p5a p6 ow6 t6 tf6 hz6 HKeep u6 k6 U6 E6 hy6
              go_wp2_with fail
              go_meet
              first | exact HEA.out | exact HEB.out
          · go_wp2_with fail
            have HKeep : ∀ X : World, X.heap[nM]? = w5.heap[nM]? → X.cell? ⟨nM, 1, none⟩ = some (.slice (some ⟨g2, 0, none⟩) rs.length c2) := fun X hX => at_cell (hX.trans st.kB) 1
            go_region_held3 (fun X => X.cell? ⟨nM, 1, none⟩ = some (.slice (some ⟨g2, 0, none⟩) rs.length c2))
              ((refine HKeep _ ?_; first | exact rfl | exact E6 | exact (Below.heap_setCell _ ⟨g2, 2, none⟩ _ _ n2).trans E6 | exact (Below.heap_setCell _ ⟨g2, 3, none⟩ _ _ n2).trans ((Below.heap_setCell _ ⟨g2, 2, none⟩ _ _ n2).trans E6)))
              ((go_simp; go_at_call 30; refine (draw10_any c x len cap w5.drew st.kc.drew).mono ?_; rintro e w6 ⟨ka, kv, rfl, -, -, u6, k6⟩; have U6 : Upto c w5 w6 := u6.undr; have E6 := U6.block nM lM (by omega); have ow6 := st.own.upto U6 st.lt; obtain ⟨⟨t60, t61⟩, tf0, tf1⟩ := own_two ow6.r 1 (by have := HL2.out; omega); generalize rs[1]'(by have := HL2.out; omega) = yy at t60 t61; dsimp only))
            all_goals
              have HEA : Hid _ := (st.step U6 k6).rep HL2.out ka kv
              clear st ow6 t60 t61 tf0 tf1 HKeep u6 k6 U6 E6
              go_wp2_with fail
              go_meet
              exact HEA.out
          · have p0 := at_cell st.kB 0
            have f0 := at_open st.kB 0
            have h4 : 1 ≤ ts.length := by have := HL1.out; omega
            have h4i : (1 : Int) ≤ (ts.length : Int) := by omega
            have hcap : ts.length ≤ c1 := own_cap st.own.t
            have hci : (ts.length : Int) ≤ (c1 : Int) := by omega
            have hc1 : ¬ c1 = 1 := by have := HL1.out; omega
            have HE : Hid (MemEnd c x len cap nM w (w5.setCell ⟨nM, 0, none⟩ (.slice (some ⟨g1, 1, none⟩) (ts.length - 1) (c1 - 1)))) := st.cut1 HL1.out
            clear st
            go_wp2_with fail
            go_meet
            exact HE.out
      case rest =>
        obtain ⟨p1, m1, d1, p2, m2, d2, ts', rs', kB, kR, kc, uu, rr, nn1, nn2⟩ := hcut
        clear st
        rename World => wz
        have e0 := at_cell kB 0
        have e1 := at_cell kB 1
        have q0 := at_cell kR 0
        have q1 := at_cell kR 1
        have f0 := at_open kR 0
        have f1 := at_open kR 1
        obtain ⟨kS, uS⟩ := set_two kR (.slice p1 m1 d1) (.slice p2 m2 d2)
        have HS : Hid _ := kS
        have HNN : Hid _ := And.intro nn1 nn2
        have HF : Hid (RM ((wz.setCell ⟨w.heap.size, 0, none⟩ (.slice p1 m1 d1)).setCell ⟨w.heap.size, 1, none⟩ (.slice p2 m2 d2)).heap.size ((wz.setCell ⟨w.heap.size, 0, none⟩ (.slice p1 m1 d1)).setCell ⟨w.heap.size, 1, none⟩ (.slice p2 m2 d2)) (.slice p1 m1 d1) (.slice p2 m2 d2) ts' rs' ∧ Upto c w ((wz.setCell ⟨w.heap.size, 0, none⟩ (.slice p1 m1 d1)).setCell ⟨w.heap.size, 1, none⟩ (.slice p2 m2 d2)) ∧ Cur ((wz.setCell ⟨w.heap.size, 0, none⟩ (.slice p1 m1 d1)).setCell ⟨w.heap.size, 1, none⟩ (.slice p2 m2 d2)) c x len cap) := ⟨rr.box (fun e => Nat.lt_irrefl _ (nn1 _ e)) (fun e => Nat.lt_irrefl _ (nn2 _ e)) uS, uu.row uS (Nat.le_refl _), kc.row uS hlt⟩
        clear kS uS kB kR kc uu rr nn1 nn2
        go_wp2_with fail
        exact bodyPost_ret (v := .agg #[.slice p1 m1 d1, .slice p2 m2 d2]) (by simp [results, Try.results27, go_sem, at_cell HS.out]) rfl ⟨_, _, ts', rs', rfl, HF.out.1, HNN.out.1, HNN.out.2, HF.out.2.1, HF.out.2.2⟩
end Go.Proofs.Ytpmoefagpglddaa

namespace Go.Proofs.Ytpmoefagpglddaa
open Go.RowKit

set_option linter.unusedVariables false

set_option maxRecDepth 100000


theorem OwnM.forms {base : Nat} {w : World} {v1 v2 : Value} {ts : List Int} {rs : List (Int × Int)} (h : OwnM base w v1 v2 ts rs) : ∃ o1 c1 o2 c2, v1 = .slice o1 ts.length c1 ∧ v2 = .slice o2 rs.length c2 := by
  obtain ⟨o1, c1, h1⟩ := own_slice h.t
  obtain ⟨o2, c2, h2⟩ := own_slice h.r
  exact ⟨o1, c1, o2, c2, h1, h2⟩
end Go.Proofs.Ytpmoefagpglddaa

