/-
  Contracts and plain laws, one chapter behind the other.
-/
import Derived.Test.YtkjdfgjmkomcgaaM01
import Derived.Test.YtkjdfgjmkomcgaaM02
import Derived.Test.YtkjdfgjmkomcgaaM03
namespace Go.Proofs.Ytkjdfgjmkomcgaa
open Go.RowKit

set_option linter.unusedVariables false

set_option maxRecDepth 100000


/-- A pool that is read: its rows. -/
structure RP (B : Nat) (w : World) (v1 v2 : Value) (cs ps : List Int) : Prop where
  c : Reads B w v1 (cs.map (Value.int .i64))
  p : Reads B w v2 (ps.map (Value.int .i64))

theorem RP.below {B : Nat} {w w' : World} {v1 v2 : Value} {cs ps : List Int} (h : RP B w v1 v2 cs ps) (k : Below B w w') : RP B w' v1 v2 cs ps := ⟨h.c.below k, h.p.below k⟩

theorem RP.mono {B B' : Nat} {w : World} {v1 v2 : Value} {cs ps : List Int} (h : RP B w v1 v2 cs ps) (k : B ≤ B') : RP B' w v1 v2 cs ps := ⟨h.c.mono k, h.p.mono k⟩

theorem RP.of {B : Nat} {W : World} {v1 v2 : Value} {cs ps : List Int} (h : RP B W v1 v2 cs ps) (y : B ≤ W.heap.size) (p : BelowOf W) : RP p.w'.heap.size p.w' v1 v2 cs ps := ((h.mono y).below p.h).mono p.h.size

theorem RP.forms {B : Nat} {w : World} {v1 v2 : Value} {cs ps : List Int} (h : RP B w v1 v2 cs ps) : ∃ o1 k1 o2 k2, v1 = .slice o1 cs.length k1 ∧ v2 = .slice o2 ps.length k2 := by
  obtain ⟨⟨o, k, e, -⟩, ⟨o', k', e', -⟩⟩ := h
  exact ⟨o, k, o', k', by rw [e, List.length_map], by rw [e', List.length_map]⟩

theorem OwnP.reads {base : Nat} {w : World} {v1 v2 : Value} {cs ps : List Int} (h : OwnP base w v1 v2 cs ps) : RP w.heap.size w v1 v2 cs ps := ⟨h.r1, h.r2⟩

theorem OwnP.rng {lo hi base : Nat} {w w' : World} {v1 v2 : Value} {cs ps : List Int} (h : OwnP base w v1 v2 cs ps) (k : Rng lo hi w w') (hb : hi ≤ base) : OwnP base w' v1 v2 cs ps := ⟨own_rng h.c k hb, own_rng h.p k hb, h.apart⟩

/-- The blocks of a pool of one's own lie from base on, below the end of memory. -/
theorem OwnP.span {base : Nat} {w : World} {v1 v2 : Value} {cs ps : List Int} (h : OwnP base w v1 v2 cs ps) : ∀ g, (v1.ownBlock = some g ∨ v2.ownBlock = some g) → base ≤ g ∧ g < w.heap.size := by
  rintro g (h1 | h1)
  · exact h.c.lt g h1
  · exact h.p.lt g h1

theorem OwnP.forms {base : Nat} {w : World} {v1 v2 : Value} {cs ps : List Int} (h : OwnP base w v1 v2 cs ps) : ∃ o1 c1 o2 c2, v1 = .slice o1 cs.length c1 ∧ v2 = .slice o2 ps.length c2 := by
  obtain ⟨o1, c1, h1⟩ := own_slice h.c
  obtain ⟨o2, c2, h2⟩ := own_slice h.p
  exact ⟨o1, c1, o2, c2, h1, h2⟩

/-- What is left, or -1; where it is told, neither row was longer than what there was. -/
theorem szPool_any (v1 v2 : Value) (cs ps : List Int) (left : Int) (w : World) (h0 : 0 ≤ left) (hl : left ≤ 1048576) (r : RP w.heap.size w v1 v2 cs ps) :
    Calls Try.prog 45 #[.agg #[v1, v2], .int .i64 left] w fun e w' => ∃ q : Int, e = .returned (.int .i64 q) ∧ (q = -1 ∨ (0 ≤ q ∧ q ≤ left ∧ cs.length ≤ 1048576 ∧ ps.length ≤ 1048576)) ∧ Below w.heap.size w w' := by
  obtain ⟨h1, h2⟩ := r
  obtain ⟨o1, cap1, rfl, m1, -, -⟩ := h1
  obtain ⟨o2, cap2, rfl, m2, -, -⟩ := h2
  simp only [List.length_map] at m1 m2 ⊢
  obtain ⟨W0, hW0, k0, d0, z0⟩ := pool_box w (.slice o1 cs.length cap1) (.slice o2 ps.length cap2) 54
  have HW0 : Hid (W0 = _) := hW0
  have p0 := at_cell k0 0
  have p1 := at_cell k0 1
  clear hW0 k0
  go_enter Try.func45, Try.ntmps45
  go_wp2_with fail
  rw [← HW0.out]
  clear HW0
  refine (szInts_any _ _ _ _ _ h0 hl m1).mono ?_
  rintro e w' ⟨rfl, rfl⟩
  by_cases hb : left < (cs.length : Int)
  · rw [if_pos hb]
    go_wp2_with fail
    go_ret
    exact ⟨-1, rfl, .inl rfl, d0⟩
  · rw [if_neg hb]
    have hl1 : 0 ≤ left - (cs.length : Int) := by omega
    have hl2 : left - (cs.length : Int) ≤ 1048576 := by omega
    go_wp2_with fail
    refine (szInts_any _ _ _ _ _ hl1 hl2 m2).mono ?_
    rintro e w' ⟨rfl, rfl⟩
    by_cases hb2 : left - (cs.length : Int) < (ps.length : Int)
    · rw [if_pos hb2]
      go_wp2_with fail
      go_ret
      exact ⟨-1, rfl, .inl rfl, d0⟩
    · rw [if_neg hb2]
      have hl3 : 0 ≤ left - (cs.length : Int) - (ps.length : Int) := by omega
      go_wp2_with fail
      go_ret
      exact ⟨_, rfl, .inr ⟨hl3, by omega, by omega, by omega⟩, d0⟩

set_option maxHeartbeats 800000 in
theorem toPool_any (v1 v2 : Value) (cs ps : List Int) (w : World) (hc : cs.length ≤ 1048576) (hp : ps.length ≤ 1048576) (r : RP w.heap.size w v1 v2 cs ps) :
    Calls Try.prog 48 #[.agg #[v1, v2]] w fun e w' => ∃ u1 u2 : Value, e = .returned (.agg #[u1, u2]) ∧ OwnP w.heap.size w' u1 u2 cs ps ∧ Below w.heap.size w w' := by
  obtain ⟨W0, hW0, k0, k1, k2, d0, z0⟩ := box3 w #[v1, v2] #[.slice none 0 0, .slice none 0 0] #[.slice none 0 0, .slice none 0 0] 54 26 26
  have r0 := r.below d0
  have HW0 : Hid (W0 = _) := hW0
  have z0a : w.heap.size + 1 + 1 + 1 ≤ W0.heap.size := by omega
  clear hW0 r z0
  go_enter Try.func48, Try.ntmps48
  go_wp2_with fail
  rw [← HW0.out]
  clear HW0
  refine (toInts_any v1 cs _ hc (r0.c.mono d0.size)).mono ?_
  rintro e w1 ⟨rfl, own1, b1⟩
  replace k0 := (b1.block _ (by omega)).trans k0
  replace k1 := (b1.block _ (by omega)).trans k1
  replace k2 := (b1.block _ (by omega)).trans k2
  have z1 := b1.size
  replace d0 := bw_call d0 b1
  replace r0 := r0.below (b1.mono (by omega))
  -- the first row is stored
  have f0 := at_open k2 0
  have c0 := at_cell k2 0
  have u : Upto (w.heap.size + 1 + 1) w1 (w1.setCell ⟨w.heap.size + 1 + 1, 0, none⟩ (.slice (some ⟨W0.heap.size, 0, none⟩) cs.length cs.length)) := (Upto.refl _ _).setCell ⟨w.heap.size + 1 + 1, 0, none⟩ (.inl rfl) _
  have k3 := set_0 k2 (.slice (some ⟨W0.heap.size, 0, none⟩) cs.length cs.length)
  replace k0 := (u.block _ (by omega) (by omega)).trans k0
  replace k1 := (u.block _ (by omega) (by omega)).trans k1
  replace own1 := ownsRow_upto own1 u (by omega)
  replace d0 := d0.trans (u.toBelow (by omega) (by omega))
  replace r0 := r0.below (u.toBelow (by omega) (by omega))
  have z2 := u.size
  have p1 := at_cell k0 1
  clear b1 u k2
  go_wp2_with fail
  generalize w1.setCell ⟨w.heap.size + 1 + 1, 0, none⟩ (.slice (some ⟨W0.heap.size, 0, none⟩) cs.length cs.length) = w2 at *
  clear f0 c0 p1
  refine (toInts_any v2 ps _ hp (r0.p.mono (by omega))).mono ?_
  rintro e w3 ⟨rfl, own3, b3⟩
  replace k1 := (b3.block _ (by omega)).trans k1
  replace k3 := (b3.block _ (by omega)).trans k3
  have own13 := owns_below own1 b3
  have z3 := b3.size
  have hlt : W0.heap.size < w2.heap.size := (own1.lt _ rfl).2
  replace d0 := bw_call d0 b3
  clear own1 k0
  -- the second
  have f0 := at_open k3 1
  have c0 := at_cell k3 1
  have c00 := at_cell k3 0
  have u : Upto (w.heap.size + 1 + 1) w3 (w3.setCell ⟨w.heap.size + 1 + 1, 1, none⟩ (.slice (some ⟨w2.heap.size, 0, none⟩) ps.length ps.length)) := (Upto.refl _ _).setCell ⟨w.heap.size + 1 + 1, 1, none⟩ (.inl rfl) _
  have k4 := set_1 k3 (.slice (some ⟨w2.heap.size, 0, none⟩) ps.length ps.length)
  replace k1 := (u.block _ (by omega) (by omega)).trans k1
  replace own13 := ownsRow_upto own13 u (by omega)
  replace own3 := ownsRow_upto own3 u (by omega)
  replace d0 := d0.trans (u.toBelow (by omega) (by omega))
  have q0 := at_cell k1 0
  have q1 := at_cell k1 1
  have g0 := at_open k1 0
  have g1 := at_open k1 1
  have a0 := at_cell k4 0
  have a1 := at_cell k4 1
  have HS : Hid _ := pool_end w _ _ _ _ _ (w.heap.size + 1) cs ps (by omega) k1 ⟨owns_mono own13 (by omega), owns_mono own3 (by omega), fun g h1 h2 => by simp [Value.ownBlock] at h1 h2; omega⟩ d0
  clear b3 u k1 k3 k4 own13 own3 d0 r0
  go_wp2_with fail
  exact bodyPost_ret (v := .agg #[.slice (some ⟨W0.heap.size, 0, none⟩) cs.length cs.length, .slice (some ⟨w2.heap.size, 0, none⟩) ps.length ps.length]) (by simp [results, Try.results48, go_sem, at_cell HS.out.1]) rfl ⟨_, _, rfl, HS.out.2⟩

set_option maxHeartbeats 800000 in
theorem eqPool_any (a1 a2 b1 b2 : Value) (cs ps cs' ps' : List Int) (w : World) (r : RP w.heap.size w a1 a2 cs ps) (r' : RP w.heap.size w b1 b2 cs' ps') :
    Calls Try.prog 50 #[.agg #[a1, a2], .agg #[b1, b2]] w fun e w' => e = .returned (.bool (decide (cs = cs') && decide (ps = ps'))) ∧ Below w.heap.size w w' := by
  obtain ⟨W0, hW0, k0, k1, d0, z0⟩ := box2 w #[a1, a2] #[b1, b2] 26 26
  have r0 := (r.below d0).mono d0.size
  have r1 := (r'.below d0).mono d0.size
  have HW0 : Hid (W0 = _) := hW0
  clear hW0 r r'
  go_enter Try.func50, Try.ntmps50
  go_wp2_with fail
  rw [← HW0.out]
  clear HW0
  refine (eqInts_any a1 b1 cs cs' _ r0.c r1.c).mono ?_
  rintro e w1 ⟨rfl, b⟩
  replace k0 := (b.block _ (by omega)).trans k0
  replace k1 := (b.block _ (by omega)).trans k1
  replace d0 := bw_call d0 b
  replace r0 := (r0.below b).mono b.size
  replace r1 := (r1.below b).mono b.size
  have p0 := at_cell k0 1
  have p1 := at_cell k1 1
  by_cases hc : cs = cs'
  · rw [decide_eq_true hc]
    go_wp2_with fail
    refine (eqInts_any a2 b2 ps ps' _ r0.p r1.p).mono ?_
    rintro e w2 ⟨rfl, b2'⟩
    replace d0 := bw_call d0 b2'
    by_cases hp : ps = ps'
    · rw [decide_eq_true hp]
      have HC : Hid (cs = cs') := hc
      have HP : Hid (ps = ps') := hp
      clear hc hp
      go_wp2_with fail
      go_ret
      exact ⟨ret_bool (by simp [HC.out, HP.out]), d0⟩
    · rw [decide_eq_false hp]
      have HP : Hid (¬ ps = ps') := hp
      clear hc hp
      go_wp2_with fail
      go_ret
      exact ⟨ret_bool (by rw [decide_eq_false HP.out, Bool.and_false]), d0⟩
  · rw [decide_eq_false hc]
    have HP : Hid (¬ cs = cs') := hc
    clear hc
    go_wp2_with fail
    go_ret
    exact ⟨ret_bool (by rw [decide_eq_false HP.out, Bool.false_and]), d0⟩
end Go.Proofs.Ytkjdfgjmkomcgaa

namespace Go.Proofs.Ytkjdfgjmkomcgaa
open Nums

set_option linter.unusedVariables false

set_option maxRecDepth 100000


structure Oq where
  k : Int
  nm : ByteArray
  ot : ByteArray
  at_ : Int
  va : Int
  ep : Int

def Oq.zero : Oq := ⟨0, ByteArray.empty, ByteArray.empty, 0, 0, 0⟩

theorem ext_list {a b : ByteArray} (h : a.data.toList = b.data.toList) : a = b := by
  cases a; cases b
  simp at h
  rw [h]
end Go.Proofs.Ytkjdfgjmkomcgaa

namespace Go.Proofs.Ytkjdfgjmkomcgaa
open Go.RowKit

set_option linter.unusedVariables false

set_option maxRecDepth 100000


def pageOf (rs : List (Int × Int × Int)) (place : Int) : Int := if mapOk rs = true ∧ 0 ≤ place ∧ place ≤ 15 then (pages rs).getD place.toNat 0 else -1

def pagesOf (rs : List (Int × Int × Int)) : List Int := if mapOk rs = true then (pages rs).filter (fun p => decide (0 ≤ p)) else []

theorem getD_set16 (l : List Int) (k j : Nat) (x : Int) (h : k < l.length) : (l.set k x).getD j 0 = if k = j then x else l.getD j 0 := by
  rw [List.getD_eq_getElem?_getD, List.getElem?_set, List.getD_eq_getElem?_getD]
  by_cases e : k = j
  · subst e; simp [h]
  · simp [e]
end Go.Proofs.Ytkjdfgjmkomcgaa

namespace Go.Proofs.Ytkjdfgjmkomcgaa
open Go.RowKit

set_option linter.unusedVariables false

set_option maxRecDepth 100000


theorem run_append_fresh {P : Program} (w : World) (base : Nat) (t ty e : TypeId) (i : TypeInfo) (z : Value) (size bytes : Nat) (ht : P.underlying t = some (.slice e)) (hi : P.info? e = some i) (hz : i.zero = some z)
    (hsize : i.size = size) (hby : i.bytes = bytes) (hzs : z.cells.size = size) (hsz : 0 < size)
    (v : Value) (n : Nat) (xs : List Value) (hown : w.ownsRow base e size v n xs)
    (a : Addr) (m c : Nat) (news : List Value) (hl : news.length = m * size) (hnews : ∀ j u, news[j]? = some u → w.cell? (a.add j) = some u) (h1 : ∀ u ∈ news, u.oneCell' = true)
    (h63 : n + m ≤ maxLen) (hbytes : (n + m) * bytes ≤ 140737488355328) (hbase : base ≤ w.heap.size) :
    ∃ v' w', (Builtin.append_ #[t, t] ty #[v, .slice (some a) m c]).run P w = .ok v' w' ∧ w'.ownsRow base e size v' (n + m) (xs ++ news) ∧ w.grownBy w' v.ownBlock ∧ (v' = .slice none 0 0 ↔ v = .slice none 0 0 ∧ m = 0) ∧ ∀ k, v'.ownBlock = some k → v.ownBlock = some k ∨ w.heap.size ≤ k := by
  rcases hown.2 with ⟨rfl, rfl⟩ | ⟨g, cap, cur, rfl, hbg, hg, hnc, hcm, hcs, htake⟩
  · have hx : xs = [] := List.eq_nil_of_length_eq_zero (by simpa using hown.1)
    subst hx
    obtain ⟨v', w', hr, ho, hg, hn⟩ := run_append_own (P := P) w w.heap.size t ty e i z size bytes ht hi hz hsize hby hzs hsz (.slice none 0 0) 0 [] (World.ownsRow_nil _ _ _ _) a m c news hl hnews h1 h63 hbytes (Nat.le_refl _)
    exact ⟨v', w', hr, owns_mono ho hbase, hg, hn, fun k hk => .inr (ho.lt k hk).1⟩
  · by_cases hroom : n + m ≤ cap
    · obtain ⟨w', hr, ho, hg'⟩ := run_append_fits (P := P) w base t ty e i size ht hi hsize g n cap xs hown a m c news hl hnews h1 hroom
      exact ⟨_, w', hr, ho, hg', by simp, fun k hk => .inl (by simpa [Value.ownBlock] using hk)⟩
    · obtain ⟨v', w', hr, ho, hg', hn⟩ := run_append_full (P := P) w w.heap.size t ty e i z size bytes ht hi hz hsize hby hzs ⟨g, 0, none⟩ n cap xs hown.1 (hown.cells (g := g) rfl) a m c news hl hnews (by omega) h63 hbytes (Nat.le_refl _)
      exact ⟨v', w', hr, owns_mono ho hbase, ⟨hg'.os, hg'.tape, hg'.output, hg'.size, fun k hk _ => hg'.block k hk (by simp)⟩, by simp [hn], fun k hk => .inr (ho.lt k hk).1⟩

theorem wpList_append_fresh {P : Program} {w : World} {ops : Array Oper} {rest : List Oper} {o : Oper} {a : Act} {Q : Exit → Act → World → Prop} (hgd : o.guard = none) (s x : Operand) (t : TypeId)
    (ho : o.op = .call { callee := .builtin .append, args := #[s, x], argTypes := #[t, t] })
    (base : Nat) (e : TypeId) (i : TypeInfo) (z : Value) (size bytes : Nat) (ht : P.underlying t = some (.slice e)) (hi : P.info? e = some i) (hz : i.zero = some z)
    (hsize : i.size = size) (hby : i.bytes = bytes) (hzs : z.cells.size = size) (hsz : 0 < size)
    (v : Value) (n : Nat) (xs : List Value) (hs : a.eval s = v) (hown : w.ownsRow base e size v n xs)
    (ad : Addr) (m c : Nat) (news : List Value) (hx : a.eval x = .slice (some ad) m c) (hl : news.length = m * size) (hnews : ∀ j u, news[j]? = some u → w.cell? (ad.add j) = some u) (h1 : ∀ u ∈ news, u.oneCell' = true)
    (h63 : n + m ≤ maxLen) (hbytes : (n + m) * bytes ≤ 140737488355328) (hbase : base ≤ w.heap.size)
    (h : ∀ v' w', w'.ownsRow base e size v' (n + m) (xs ++ news) → w.grownBy w' v.ownBlock → (v' = .slice none 0 0 ↔ v = .slice none 0 0 ∧ m = 0) → (∀ k, v'.ownBlock = some k → v.ownBlock = some k ∨ w.heap.size ≤ k) → wpList P ops Q rest (a.put o.dst v') w') : wpList P ops Q (o :: rest) a w :=
  wpList_plain hgd fun K hK => by
    obtain ⟨v', w', hr, h2, h3, h4, h5⟩ := run_append_fresh (P := P) w base t o.type e i z size bytes ht hi hz hsize hby hzs hsz v n xs hown ad m c news hl hnews h1 h63 hbytes hbase
    have hKK := hK _ _ (h v' w' h2 h3 h4 h5)
    unfold Oper.wp execOp
    simp only [ho, resolve, invoke, builtin, Sem.run_bind, Sem.run_pure, Result.andThen_ok, List.map_toArray, List.map_cons, List.map_nil, hs, hx, hr]
    exact hKK
end Go.Proofs.Ytkjdfgjmkomcgaa

namespace Go.Proofs.Ytkjdfgjmkomcgaa
open Go.RowKit

set_option linter.unusedVariables false

set_option maxRecDepth 100000

theorem filter_take (l : List Int) (k : Nat) (h : k < l.length) : (l.take (k + 1)).filter (fun p => decide (0 ≤ p)) = (l.take k).filter (fun p => decide (0 ≤ p)) ++ (if 0 ≤ l[k] then [l[k]] else []) := by
  rw [List.take_succ_eq_append_getElem h, List.filter_append]
  by_cases e : 0 ≤ l[k] <;> simp [e]

set_option maxHeartbeats 1600000 in
theorem l5Of_any (v : Value) (rs : List (Int × Int × Int)) (w : World) (hok : mapOk rs = true) (r : ReadsR 3 runC w.heap.size w v rs) :
    Calls Try.prog 33 #[v] w fun e w' => ∃ v' : Value, e = .returned v' ∧ w'.ownsRow w.heap.size 2 1 v' ((pages rs).filter (fun p => decide (0 ≤ p))).length (((pages rs).filter (fun p => decide (0 ≤ p))).map (Value.int .i64)) ∧ v' ≠ .slice none 0 0 ∧ Below w.heap.size w w' := by
  obtain ⟨i0, hi, hz0, hz1, hz2⟩ := info_parts Try.infoI64
  have HOK : Hid _ := hok
  have own0 : (w.alloc (.cells #[] 2)).ownsRow w.heap.size 2 1 (.slice (some ⟨w.heap.size, 0, none⟩) 0 0) 0 [] := World.ownsRow_lit w #[] 0 (Nat.le_refl _) (Nat.zero_le _) rfl
  have d0 : Below w.heap.size w (w.alloc (.cells #[] 2)) := bw_alloc (Below.refl _ _)
  have r0 := (r.below d0).mono d0.size
  have hW : w.heap.size < (w.alloc (.cells #[] 2)).heap.size := by simp
  clear hok r
  go_enter Try.func33, Try.ntmps33
  go_wp2_with fail
  generalize w.alloc (.cells #[] 2) = W0 at *
  refine (l5Pages_any v rs _ HOK.out r0).mono ?_
  rintro e w1 ⟨g, cp, rfl, own, b1⟩
  have own1 := owns_below own0 b1
  have d1 := bw_call d0 b1
  have hg := own.lt g rfl
  have hpl := pages_length rs
  have HCELL : Hid (∀ j, j < 16 → w1.cell? ⟨g, j, none⟩ = some (.int .i64 ((pages rs).getD j 0))) := fun j hj => by
    have c0 := own.cellAt j (by omega)
    rw [List.getElem?_map, List.getElem?_eq_getElem (show j < (pages rs).length by omega)] at c0
    rw [c0, List.getD_eq_getElem?_getD, List.getElem?_eq_getElem (show j < (pages rs).length by omega)]
    rfl
  obtain ⟨L, hL⟩ : ∃ L, pages rs = L := ⟨_, rfl⟩
  rw [hL] at HCELL hpl
  have HLL : Hid (pages rs = L) := hL
  have HPL : Hid (L.length = 16) := hpl
  clear hL
  clear own0 d0 b1 own r0 hpl
  go_wp2_with fail
  go_loopw [3, 5] (fun q i wr => ∃ (k b cq : Nat) (xs : List Int), k ≤ 16 ∧ i = .int .i64 k ∧ xs = (L.take k).filter (fun p => decide (0 ≤ p)) ∧ q = .slice (some ⟨b, 0, none⟩) xs.length cq ∧ b ≠ g ∧ wr.ownsRow w.heap.size 2 1 (.slice (some ⟨b, 0, none⟩) xs.length cq) xs.length (xs.map (Value.int .i64)) ∧ (∀ j, j < 16 → wr.cell? ⟨g, j, none⟩ = some (.int .i64 (L.getD j 0))) ∧ g < wr.heap.size ∧ Below w.heap.size w wr) (fun _ i _ => 16 - (intOf i).toNat)
  case atStart => exact ⟨0, w.heap.size, 0, [], Nat.zero_le _, rfl, by simp, rfl, by omega, own1, HCELL.out, hg.2, d1⟩
  case round =>
    clear own1 d1 HCELL hg
    obtain ⟨k, b, cq, xs, hk, rfl, hxs, rfl, hbg, own, hcell, hgs, hb⟩ := hrel
    have HXS : Hid _ := hxs
    by_cases hlt : k < 16
    · have c0 := hcell k hlt
      have HCE : Hid _ := hcell
      have hxl : xs.length ≤ 16 := by
        rw [hxs]
        have h1 : ((L.take k).filter (fun p => decide (0 ≤ p))).length ≤ (L.take k).length := List.length_filter_le _ _
        rw [List.length_take] at h1
        omega
      have hft := filter_take L k (by have := HPL.out; omega)
      rw [← hxs] at hft
      have hgd : L.getD k 0 = L[k]'(by have := HPL.out; omega) := by rw [List.getD_eq_getElem?_getD, List.getElem?_eq_getElem (by have := HPL.out; omega)]; rfl
      rw [← hgd] at hft
      have HFT : Hid _ := hft
      clear hft hgd hcell hxs
      generalize L.getD k 0 = z at c0 HFT
      have h0 : (0 : Int) ≤ (k : Int) := by omega
      have h1 : (k : Int) < 16 := by omega
      by_cases hz : 0 ≤ z
      · have HN : Hid (xs ++ [z] = (L.take (k + 1)).filter (fun p => decide (0 ≤ p))) := by rw [Hid, HFT.out, if_pos hz]
        have hgne : ¬ g = wr.heap.size := by omega
        go_wp2_with (at_builtin; refine wpList_append_fresh rfl _ _ 24 rfl w.heap.size 2 i0 (.int .i64 0) 1 8 Try.underlying24 hi hz0 hz1 hz2 rfl (by decide) _ _ _ rfl (own.alloc _) ⟨wr.heap.size, 0, none⟩ 1 1 [.int .i64 z] rfl rfl ?c1 ?c2 ?c3 ?c4 ?c5 ?_)
        case c1 => exact new_one _ _ _
        case c2 => intro u hu; simp at hu; subst hu; rfl
        case c3 => unfold maxLen; omega
        case c4 => omega
        case c5 => have := hb.size; simp; omega
        intro v' w3 hown' hgrow hnil hfr
        have own3 : w3.ownsRow w.heap.size 2 1 v' (xs ++ [z]).length ((xs ++ [z]).map (Value.int .i64)) := by simpa using hown'
        obtain ⟨b', cq', hv'⟩ : ∃ b' cq', v' = .slice (some ⟨b', 0, none⟩) (xs ++ [z]).length cq' := by
          rcases own3.2 with ⟨e, _⟩ | ⟨b', cq', _, e, _⟩
          · exact absurd e hnil
          · exact ⟨b', cq', e⟩
        have hbg' : b' ≠ g := fun e => by
          rcases hfr b' (by rw [hv']; rfl) with h | h
          · simp [Value.ownBlock] at h; omega
          · first | omega | (simp at h; omega)
        have hblk : ∀ j, j < 16 → w3.cell? ⟨g, j, none⟩ = some (.int .i64 (L.getD j 0)) := fun j hj => by
          refine hgrow.cell (a := ⟨g, j, none⟩) ?_ (by simp [Value.ownBlock]; omega)
          exact (Below.cell (bw_alloc (Below.refl _ _)) (p := ⟨g, j, none⟩) hgs).trans (HCE.out j hj)
        have hb3 : Below w.heap.size w w3 := (bw_alloc hb).grown hgrow (by have := hb.size; simp; omega) (fun q hq => (own.lt q (by simpa [Value.ownBlock] using hq)).1)
        have hgs3 : g < w3.heap.size := by have := hgrow.size; simp at this; omega
        subst hv'
        have HO : Hid _ := And.intro own3 (And.intro hblk (And.intro hgs3 hb3))
        clear hown' hgrow hnil hfr own3 hblk hgs3 hb3 own
        go_wp2_with fail
        go_roundw
        case rel => exact ⟨k + 1, b', cq', xs ++ [z], by omega, by go_num, HN.out, by simp, hbg', HO.out.1, HO.out.2.1, HO.out.2.2.1, HO.out.2.2.2⟩
        case measure => simp [intOf]; omega
      · have HN : Hid (xs = (L.take (k + 1)).filter (fun p => decide (0 ≤ p))) := by rw [Hid, HFT.out, if_neg hz, List.append_nil]
        go_wp2_with fail
        go_roundw
        case rel => exact ⟨k + 1, b, cq, xs, by omega, by go_num, HN.out, rfl, hbg, own, HCE.out, hgs, hb⟩
        case measure => simp [intOf]; omega
    · obtain rfl : k = 16 := by omega
      have hfin : L.take 16 = L := List.take_of_length_le (by rw [HPL.out]; exact Nat.le_refl _)
      rw [hfin] at hxs
      have HXL : Hid (xs = L.filter (fun p => decide (0 ≤ p))) := hxs
      clear hxs hcell HXS hfin
      go_wp2_with fail
      go_ret
      rw [HLL.out, ← HXL.out]
      exact ⟨_, rfl, own, by simp, hb⟩
end Go.Proofs.Ytkjdfgjmkomcgaa

namespace Go.Proofs.Ytkjdfgjmkomcgaa
open Go.RowKit

set_option linter.unusedVariables false

set_option maxRecDepth 100000


/-! ### Names in their order -/
def ltB (a b : ByteArray) : Bool := Op.bytesLess a.toList b.toList

theorem less_irrefl (x : List UInt8) : Op.bytesLess x x = false := by
  induction x with
  | nil => rfl
  | cons a t ih => simp [Op.bytesLess, ih]

theorem less_trans : ∀ (x y z : List UInt8), Op.bytesLess x y = true → Op.bytesLess y z = true → Op.bytesLess x z = true := by
  intro x
  induction x with
  | nil =>
    intro y z h1 h2
    cases z with
    | nil => cases y <;> simp [Op.bytesLess] at h2
    | cons c w => rfl
  | cons a t ih =>
    intro y z h1 h2
    cases y with
    | nil => simp [Op.bytesLess] at h1
    | cons b u =>
      cases z with
      | nil => simp [Op.bytesLess] at h2
      | cons c w =>
        simp only [Op.bytesLess, Bool.or_eq_true, decide_eq_true_eq, Bool.and_eq_true, beq_iff_eq] at h1 h2 ⊢
        rcases h1 with h1 | ⟨rfl, h1⟩
        · rcases h2 with h2 | ⟨rfl, h2⟩
          · exact .inl (UInt8.lt_trans h1 h2)
          · exact .inl h1
        · rcases h2 with h2 | ⟨rfl, h2⟩
          · exact .inl h2
          · exact .inr ⟨rfl, ih u w h1 h2⟩

theorem less_total : ∀ (x y : List UInt8), Op.bytesLess x y = false → Op.bytesLess y x = false → x = y := by
  intro x
  induction x with
  | nil =>
    intro y h1 h2
    cases y with
    | nil => rfl
    | cons b u => simp [Op.bytesLess] at h1
  | cons a t ih =>
    intro y h1 h2
    cases y with
    | nil => simp [Op.bytesLess] at h2
    | cons b u =>
      simp only [Op.bytesLess, Bool.or_eq_false_iff, decide_eq_false_iff_not, Bool.and_eq_false_iff, beq_eq_false_iff_ne] at h1 h2
      have hab : a = b := by
        rcases UInt8.lt_or_eq_of_le (UInt8.not_lt.1 h1.1) with h | h
        · exact absurd h h2.1
        · exact h.symm
      subst hab
      rw [ih u (h1.2.resolve_left (fun h => h rfl)) (h2.2.resolve_left (fun h => h rfl))]

theorem ltB_irrefl (a : ByteArray) : ltB a a = false := less_irrefl _

theorem ltB_trans {a b c : ByteArray} (h1 : ltB a b = true) (h2 : ltB b c = true) : ltB a c = true := less_trans _ _ _ h1 h2

theorem ltB_asymm {a b : ByteArray} (h : ltB a b = true) : ltB b a = false := by
  rw [Bool.eq_false_iff]
  intro h2
  have := ltB_trans h h2
  rw [ltB_irrefl] at this
  cases this

theorem toList_inj {a b : ByteArray} (h : a.toList = b.toList) : a = b := by
  apply ext_list
  rwa [ByteArray.toList_eq, ByteArray.toList_eq] at h

theorem ltB_total {a b : ByteArray} (h1 : ltB a b = false) (h2 : ltB b a = false) : a = b := toList_inj (less_total _ _ h1 h2)

/-- What the laws ask: not below, and not the same. -/
theorem ltB_gt (a b : ByteArray) : ltB a b = !(ltB b a || (b.toList == a.toList)) := by
  cases h : ltB a b
  · cases h2 : ltB b a
    · rw [ltB_total h h2]; simp
    · simp
  · rw [ltB_asymm h]
    have hne : ¬ b.toList = a.toList := fun e => by
      rw [toList_inj e, ltB_irrefl] at h
      cases h
    simp [hne]

/-! ### Books, counted -/
structure Pb where
  nm : ByteArray
  sz : Int
  rs : List (Int × Int × Int)
  fx : Bool
  ep : Int

def Pb.ok (b : Pb) : Bool := bookOk b.nm b.sz b.rs b.ep

/-- How many places of a book have that page. -/
def Pb.cnt (b : Pb) (p : Int) : Int := ((pages b.rs).count p : Int)

def cntAll (bs : List Pb) (p : Int) : Int := bs.foldr (fun b n => b.cnt p + n) 0

theorem cnt_nonneg (b : Pb) (p : Int) : 0 ≤ b.cnt p := by unfold Pb.cnt; omega

theorem cnt_le (b : Pb) (p : Int) : b.cnt p ≤ 16 := by
  unfold Pb.cnt
  have := List.count_le_length (a := p) (l := pages b.rs)
  rw [pages_length] at this
  omega

theorem cntAll_cons (b : Pb) (bs : List Pb) (p : Int) : cntAll (b :: bs) p = b.cnt p + cntAll bs p := rfl

theorem cntAll_append (xs ys : List Pb) (p : Int) : cntAll (xs ++ ys) p = cntAll xs p + cntAll ys p := by
  induction xs with
  | nil => simp [cntAll]
  | cons b t ih => rw [List.cons_append, cntAll_cons, cntAll_cons, ih]; omega

theorem cntAll_nonneg (bs : List Pb) (p : Int) : 0 ≤ cntAll bs p := by
  induction bs with
  | nil => simp [cntAll]
  | cons b t ih => rw [cntAll_cons]; have := cnt_nonneg b p; omega

theorem cntAll_le (bs : List Pb) (p : Int) : cntAll bs p ≤ 16 * bs.length := by
  induction bs with
  | nil => simp [cntAll]
  | cons b t ih => rw [cntAll_cons, List.length_cons]; have := cnt_le b p; omega

theorem cntAll_split (bs : List Pb) (i : Nat) (h : i < bs.length) (p : Int) : cntAll bs p = cntAll (bs.take i) p + bs[i].cnt p + cntAll (bs.drop (i + 1)) p := by
  have e : bs = bs.take i ++ (bs[i] :: bs.drop (i + 1)) := by rw [← List.drop_eq_getElem_cons h, List.take_append_drop]
  have q := congrArg (fun l => cntAll l p) e
  simp only [cntAll_append, cntAll_cons] at q
  omega

theorem cntAll_at (bs : List Pb) (i : Nat) (h : i < bs.length) (p : Int) : bs[i].cnt p ≤ cntAll bs p := by
  have := cntAll_split bs i h p
  have := cntAll_nonneg (bs.take i) p
  have := cntAll_nonneg (bs.drop (i + 1)) p
  omega

theorem cntAll_set (bs : List Pb) (i : Nat) (h : i < bs.length) (b : Pb) (p : Int) : cntAll (bs.set i b) p = cntAll bs p - bs[i].cnt p + b.cnt p := by
  have h' : i < (bs.set i b).length := by simpa using h
  have e1 := cntAll_split bs i h p
  have e2 := cntAll_split (bs.set i b) i h' p
  rw [List.take_set_of_le (Nat.le_refl _), List.getElem_set_self, List.drop_set_of_lt (show i < i + 1 by omega)] at e2
  omega

/-! ### A pool, its pages dropped and shared -/
/-- Rows of one length; values in range; what nobody has is 0. -/
structure Cells (n : Nat) (cs ps : List Int) : Prop where
  c : cs.length = n
  p : ps.length = n
  val : ∀ k, k < n → 0 ≤ ps.getD k 0 ∧ ps.getD k 0 ≤ 999 ∧ (cs.getD k 0 = 0 → ps.getD k 0 = 0)
end Go.Proofs.Ytkjdfgjmkomcgaa

namespace Go.Proofs.Ytkjdfgjmkomcgaa
open Go.RowKit

set_option linter.unusedVariables false

set_option maxRecDepth 100000

/-! ### A shelf -/
structure Sf where
  cs : List Int
  ps : List Int
  bs : List Pb

def sortedB : List ByteArray → Bool
  | a :: b :: t => ltB a b && sortedB (b :: t)
  | _ => true

theorem sorted_iff (l : List ByteArray) : sortedB l = true ↔ l.Pairwise (fun a b => ltB a b = true) := by
  induction l with
  | nil => simp [sortedB]
  | cons a t ih =>
    cases t with
    | nil => simp [sortedB]
    | cons b u =>
      rw [sortedB, Bool.and_eq_true, ih]
      constructor
      · rintro ⟨h1, h2⟩
        refine List.pairwise_cons.2 ⟨fun x hx => ?_, h2⟩
        rcases List.mem_cons.1 hx with rfl | hx
        · exact h1
        · exact ltB_trans h1 ((List.pairwise_cons.1 h2).1 x hx)
      · intro h
        obtain ⟨h1, h2⟩ := List.pairwise_cons.1 h
        exact ⟨h1 b (List.mem_cons_self ..), h2⟩

def countsOk (cs : List Int) (bs : List Pb) : Bool := (List.range 24).all fun k => if k < cs.length then decide (cntAll bs (k : Int) = cs.getD k 0) else decide (cntAll bs (k : Int) = 0)

def shelfOk (s : Sf) : Bool := poolOk s.cs s.ps && decide (s.bs.length ≤ 6) && s.bs.all Pb.ok && sortedB (s.bs.map Pb.nm) && countsOk s.cs s.bs

structure ShInv (s : Sf) : Prop where
  n1 : 1 ≤ s.cs.length ∧ s.cs.length ≤ 24
  cells : Cells s.cs.length s.cs s.ps
  few : s.bs.length ≤ 6
  oks : ∀ b ∈ s.bs, b.ok = true
  srt : (s.bs.map Pb.nm).Pairwise (fun a b => ltB a b = true)
  cnt : ∀ k : Nat, k < s.cs.length → s.cs.getD k 0 = cntAll s.bs (k : Int)
  out : ∀ k : Nat, s.cs.length ≤ k → k < 24 → cntAll s.bs (k : Int) = 0

theorem shelfOk_iff (s : Sf) : shelfOk s = true ↔ ShInv s := by
  unfold shelfOk
  rw [Bool.and_eq_true, Bool.and_eq_true, Bool.and_eq_true, Bool.and_eq_true, poolOk_iff, decide_eq_true_eq, List.all_eq_true, sorted_iff, countsOk, List.all_eq_true]
  constructor
  · rintro ⟨⟨⟨⟨⟨h1, h2, h3, h4⟩, h5⟩, h6⟩, h7⟩, h8⟩
    refine ⟨⟨h1, h2⟩, ⟨rfl, h3, fun k hk => ?_⟩, h5, h6, h7, fun k hk => ?_, fun k hk hk2 => ?_⟩
    · have := (cellOk_iff _ _).1 (h4 k hk)
      omega
    · have := h8 k (List.mem_range.2 (by omega))
      rw [if_pos hk, decide_eq_true_eq] at this
      exact this.symm
    · have := h8 k (List.mem_range.2 hk2)
      rwa [if_neg (by omega), decide_eq_true_eq] at this
  · intro h
    refine ⟨⟨⟨⟨⟨h.n1.1, h.n1.2, h.cells.p, fun j hj => (cellOk_iff _ _).2 ?_⟩, h.few⟩, h.oks⟩, h.srt⟩, fun k hk => ?_⟩
    · have hv := h.cells.val j hj
      have hc := h.cnt j hj
      have h0 := cntAll_nonneg s.bs (j : Int)
      have h1 := cntAll_le s.bs (j : Int)
      have h2 := h.few
      exact ⟨by omega, by omega, hv.1, hv.2.1, hv.2.2⟩
    · have hk := List.mem_range.1 hk
      split
      · rename_i hl; exact decide_eq_true (h.cnt k hl).symm
      · rename_i hl; exact decide_eq_true (h.out k (by omega) hk)

theorem book_parts {b : Pb} (h : b.ok = true) : Nums.nameB b.nm.data.toList = true ∧ (1 ≤ b.sz ∧ b.sz ≤ 16) ∧ (0 ≤ b.ep ∧ b.ep ≤ 1000) ∧ mapOk b.rs = true ∧ endsBy b.rs b.sz = true := by
  simp only [Pb.ok, bookOk, Bool.and_eq_true, decide_eq_true_eq] at h
  exact ⟨h.1.1.1.1, h.1.1.1.2, h.1.1.2, h.1.2, h.2⟩

theorem mem_getD (l : List Int) (hl : l.length = 16) (p : Int) : p ∈ l ↔ ∃ j, j < 16 ∧ l.getD j 0 = p := by
  rw [List.mem_iff_getElem]
  constructor
  · rintro ⟨j, hj, rfl⟩; exact ⟨j, by omega, getD_of l j hj⟩
  · rintro ⟨j, hj, rfl⟩; exact ⟨j, by omega, (getD_of l j (by omega)).symm⟩

/-- A page that a book has lies in the pool. -/
theorem ShInv.page {s : Sf} (h : ShInv s) (i : Nat) (hi : i < s.bs.length) (p : Int) (hp : p ∈ pages s.bs[i].rs) (h0 : 0 ≤ p) : p < s.cs.length ∧ 1 ≤ s.cs.getD p.toNat 0 := by
  have hm := (book_parts (h.oks _ (List.getElem_mem hi))).2.2.2.1
  obtain ⟨j, hj, rfl⟩ := (mem_getD _ (pages_length _) p).1 hp
  have hr := (pages_range _ hm j hj).2
  generalize (pages s.bs[i].rs).getD j 0 = p at *
  obtain ⟨m, rfl⟩ := Int.eq_ofNat_of_zero_le h0
  have hc := cntAll_at s.bs i hi (m : Int)
  have h1 : 1 ≤ s.bs[i].cnt (m : Int) := by
    unfold Pb.cnt
    have := List.count_pos_iff.2 hp
    omega
  rw [Int.toNat_natCast]
  by_cases hl : m < s.cs.length
  · have := h.cnt m hl; omega
  · have := h.out m (by omega) (by omega); omega
end Go.Proofs.Ytkjdfgjmkomcgaa

namespace Go.Proofs.Ytkjdfgjmkomcgaa
open Go.RowKit

set_option linter.unusedVariables false

set_option maxRecDepth 100000

theorem cnt_out {s : Sf} (h : ShInv s) (i : Nat) (hi : i < s.bs.length) (k : Nat) (h1 : s.cs.length ≤ k) (h2 : k < 24) : s.bs[i].cnt (k : Int) = 0 := by
  have := cntAll_at s.bs i hi (k : Int)
  have := cnt_nonneg s.bs[i] (k : Int)
  have := h.out k h1 h2
  omega

/-- A book is put in its place. -/
theorem ShInv.put {s : Sf} (h : ShInv s) (i : Nat) (hi : i < s.bs.length) (b : Pb) (hok : b.ok = true) (hn : b.nm = s.bs[i].nm) (cs ps : List Int) (hc : Cells s.cs.length cs ps)
    (hcnt : ∀ k, k < s.cs.length → cs.getD k 0 = s.cs.getD k 0 - s.bs[i].cnt (k : Int) + b.cnt (k : Int)) (hout : ∀ k, s.cs.length ≤ k → k < 24 → b.cnt (k : Int) = 0) : ShInv ⟨cs, ps, s.bs.set i b⟩ := by
  have hl := hc.c
  refine ⟨by simp only; rw [hl]; exact h.n1, by simp only; rw [hl]; exact hc, by simpa using h.few, fun x hx => ?_, ?_, fun k hk => ?_, fun k hk hk2 => ?_⟩
  · rcases List.mem_or_eq_of_mem_set hx with hx | rfl
    · exact h.oks x hx
    · exact hok
  · simp only
    rw [List.map_set, hn]
    have : (s.bs.map Pb.nm).set i s.bs[i].nm = s.bs.map Pb.nm := by
      have e : s.bs[i].nm = (s.bs.map Pb.nm)[i]'(by simpa using hi) := by simp
      rw [e, List.set_getElem_self]
    rw [this]
    exact h.srt
  · simp only at hk ⊢
    rw [hl] at hk
    rw [hcnt k hk, cntAll_set s.bs i hi, h.cnt k hk]
  · simp only at hk ⊢
    rw [hl] at hk
    rw [cntAll_set s.bs i hi, h.out k hk hk2, cnt_out h i hi k hk hk2, hout k hk hk2]
    rfl

theorem Cells.same {n : Nat} {cs ps : List Int} (h : Cells n cs ps) (p : Nat) (hp : p < n) (v : Int) (hv : 0 ≤ v ∧ v ≤ 999) (hc : cs.getD p 0 ≠ 0) : Cells n cs (ps.set p v) :=
  ⟨h.c, by simpa using h.p, fun k hk => by
    rw [getD_set ps p k v (by rw [h.p]; exact hp)]
    have := h.val k hk
    by_cases e : p = k
    · subst e; rw [if_pos rfl]; exact ⟨hv.1, hv.2, fun q => absurd q hc⟩
    · rw [if_neg e]; exact this⟩
end Go.Proofs.Ytkjdfgjmkomcgaa

namespace Go.Proofs.Ytkjdfgjmkomcgaa
open Go.RowKit

set_option linter.unusedVariables false

set_option maxRecDepth 100000

theorem filter_count (rs : List (Int × Int × Int)) (hm : mapOk rs = true) (k : Nat) : (pagesOf rs).count (k : Int) = (pages rs).count (k : Int) := by
  unfold pagesOf
  rw [if_pos hm, List.count_filter (by simp)]
end Go.Proofs.Ytkjdfgjmkomcgaa

namespace Go.Proofs.Ytkjdfgjmkomcgaa
open Go.RowKit

set_option linter.unusedVariables false

set_option maxRecDepth 100000


def Bk.pb (b : Bk) : Pb := ⟨b.nm, b.sz, b.rs, b.fx, b.ep⟩

theorem sorted_adj : ∀ (l : List ByteArray), (∀ (j : Nat) (h1 : j + 1 < l.length), ltB (l[j]'(by omega)) l[j + 1] = true) → sortedB l = true
  | [], _ => rfl
  | [a], _ => rfl
  | a :: b :: t, h => by
    rw [sortedB, Bool.and_eq_true]
    refine ⟨h 0 (by simp), sorted_adj (b :: t) (fun j h1 => ?_)⟩
    have := h (j + 1) (by simp at h1 ⊢; omega)
    simpa using this

theorem sorted_not (l : List ByteArray) (j : Nat) (h1 : j + 1 < l.length) (h : ltB (l[j]'(by omega)) l[j + 1] = false) : sortedB l = false := by
  rw [Bool.eq_false_iff]
  intro q
  have := List.pairwise_iff_getElem.1 ((sorted_iff l).1 q) j (j + 1) (by omega) h1 (by omega)
  rw [h] at this
  cases this

theorem shelf_no_pool (s : Sf) (h : poolOk s.cs s.ps = false) : shelfOk s = false := by simp [shelfOk, h]

theorem shelf_no_many (s : Sf) (h : 6 < s.bs.length) : shelfOk s = false := by
  have : decide (s.bs.length ≤ 6) = false := decide_eq_false (by omega)
  simp [shelfOk, this]

theorem shelf_no_book (s : Sf) (i : Nat) (hi : i < s.bs.length) (h : s.bs[i].ok = false) : shelfOk s = false := by
  have : s.bs.all Pb.ok = false := by
    rw [Bool.eq_false_iff]
    intro q
    have := List.all_eq_true.1 q _ (List.getElem_mem hi)
    rw [h] at this
    cases this
  simp [shelfOk, this]

theorem shelf_no_order (s : Sf) (i : Nat) (hi : i + 1 < s.bs.length) (h : ltB s.bs[i].nm s.bs[i + 1].nm = false) : shelfOk s = false := by
  have := sorted_not (s.bs.map Pb.nm) i (by simpa using hi) (by simpa using h)
  simp [shelfOk, this]

theorem shelf_no_count (s : Sf) (k : Nat) (hk : k < 24) (h : (k < s.cs.length ∧ cntAll s.bs (k : Int) ≠ s.cs.getD k 0) ∨ (s.cs.length ≤ k ∧ 0 < cntAll s.bs (k : Int))) : shelfOk s = false := by
  have : countsOk s.cs s.bs = false := by
    rw [Bool.eq_false_iff]
    intro q
    have := List.all_eq_true.1 q k (List.mem_range.2 hk)
    rcases h with ⟨h1, h2⟩ | ⟨h1, h2⟩
    · rw [if_pos h1, decide_eq_true_eq] at this
      exact h2 this
    · rw [if_neg (by omega), decide_eq_true_eq] at this
      omega
  simp [shelfOk, this]

theorem shelf_yes (s : Sf) (h1 : poolOk s.cs s.ps = true) (h2 : s.bs.length ≤ 6) (h3 : ∀ (i : Nat) (hi : i < s.bs.length), s.bs[i].ok = true) (h4 : ∀ (i : Nat) (hi : i + 1 < s.bs.length), ltB (s.bs[i]'(by omega)).nm s.bs[i + 1].nm = true)
    (h5 : ∀ k, k < 24 → ¬ ((k < s.cs.length ∧ cntAll s.bs (k : Int) ≠ s.cs.getD k 0) ∨ (s.cs.length ≤ k ∧ 0 < cntAll s.bs (k : Int)))) : shelfOk s = true := by
  unfold shelfOk
  rw [Bool.and_eq_true, Bool.and_eq_true, Bool.and_eq_true, Bool.and_eq_true]
  refine ⟨⟨⟨⟨h1, decide_eq_true h2⟩, List.all_eq_true.2 (fun b hb => ?_)⟩, sorted_adj _ (fun j hj => by simpa using h4 j (by simpa using hj))⟩, List.all_eq_true.2 (fun k hk => ?_)⟩
  · obtain ⟨i, hi, rfl⟩ := List.getElem_of_mem hb
    exact h3 i hi
  · have hk := List.mem_range.1 hk
    have := h5 k hk
    split
    · rename_i hl
      refine decide_eq_true ?_
      by_cases e : cntAll s.bs (k : Int) = s.cs.getD k 0
      · exact e
      · exact absurd (.inl ⟨hl, e⟩) this
    · rename_i hl
      refine decide_eq_true ?_
      have h0 := cntAll_nonneg s.bs (k : Int)
      by_cases e : 0 < cntAll s.bs (k : Int)
      · exact absurd (.inr ⟨by omega, e⟩) this
      · omega

/-- A row of 24 counts. -/
def row24 (f : Nat → Int) : List Int := (List.range 24).map f

theorem row24_length (f : Nat → Int) : (row24 f).length = 24 := by simp [row24]

theorem row24_get (f : Nat → Int) (k : Nat) (h : k < 24) : (row24 f).getD k 0 = f k := by
  rw [getD_of _ k (by rw [row24_length]; exact h)]
  simp [row24]

theorem row24_set (f : Nat → Int) (m : Nat) (hm : m < 24) (v : Int) : (row24 f).set m v = row24 (fun k => if m = k then v else f k) := by
  apply List.ext_getElem (by simp [row24])
  intro k h1 h2
  rw [List.getElem_set]
  by_cases e : m = k
  · subst e; simp [row24]
  · simp [row24, e]

theorem row24_zero : List.replicate 24 (0 : Int) = row24 (fun _ => 0) := by decide

theorem row24_congr (f g : Nat → Int) (h : ∀ k, k < 24 → f k = g k) : row24 f = row24 g := by
  unfold row24
  exact List.map_congr_left (fun k hk => h k (List.mem_range.1 hk))

theorem count_take (l : List Int) (j : Nat) (hj : j < l.length) (k : Int) : ((l.take (j + 1)).count k : Int) = ((l.take j).count k : Int) + (if l[j] = k then 1 else 0) := by
  rw [List.take_succ_eq_append_getElem hj, List.count_append, List.count_singleton]
  by_cases e : l[j] = k
  · rw [if_pos (by rw [beq_iff_eq]; exact e), if_pos e]; omega
  · rw [if_neg (by rw [beq_iff_eq]; exact e), if_neg e]; omega

theorem cntAll_take (bs : List Pb) (i : Nat) (hi : i < bs.length) (p : Int) : cntAll (bs.take (i + 1)) p = cntAll (bs.take i) p + bs[i].cnt p := by
  rw [List.take_succ_eq_append_getElem hi, cntAll_append, cntAll_cons]
  have : cntAll ([] : List Pb) p = 0 := rfl
  omega

theorem pagesOf_cnt (b : Pb) (h : b.ok = true) (k : Nat) : ((pagesOf b.rs).count (k : Int) : Int) = b.cnt (k : Int) := by
  rw [filter_count _ (book_parts h).2.2.2.1]
  rfl

theorem pagesOf_in (rs : List (Int × Int × Int)) (h : mapOk rs = true) (p : Int) (hp : p ∈ pagesOf rs) : 0 ≤ p ∧ p ≤ 23 := by
  unfold pagesOf at hp
  rw [if_pos h, List.mem_filter, decide_eq_true_eq] at hp
  obtain ⟨j, hj, e⟩ := (mem_getD _ (pages_length _) p).1 hp.1
  have := (pages_range rs h j hj).2
  omega
end Go.Proofs.Ytkjdfgjmkomcgaa

namespace Go.Proofs.Ytkjdfgjmkomcgaa
open Go.RowKit

set_option linter.unusedVariables false

set_option maxRecDepth 100000


/-- A shelf that is read. -/
structure RS (B : Nat) (w : World) (v1 v2 vb : Value) (cs ps : List Int) (bks : List Bk) : Prop where
  p : RP B w v1 v2 cs ps
  b : ReadsB B w vb bks

theorem RS.below {B : Nat} {w w' : World} {v1 v2 vb : Value} {cs ps : List Int} {bks : List Bk} (h : RS B w v1 v2 vb cs ps bks) (k : Below B w w') : RS B w' v1 v2 vb cs ps bks := ⟨h.p.below k, h.b.below k⟩

theorem RS.mono {B B' : Nat} {w : World} {v1 v2 vb : Value} {cs ps : List Int} {bks : List Bk} (h : RS B w v1 v2 vb cs ps bks) (k : B ≤ B') : RS B' w v1 v2 vb cs ps bks := ⟨h.p.mono k, h.b.mono k⟩

theorem RS.forms {B : Nat} {w : World} {v1 v2 vb : Value} {cs ps : List Int} {bks : List Bk} (h : RS B w v1 v2 vb cs ps bks) : ∃ o1 k1 o2 k2 ob kb, v1 = .slice o1 cs.length k1 ∧ v2 = .slice o2 ps.length k2 ∧ vb = .slice ob bks.length kb := by
  obtain ⟨o1, k1, o2, k2, e1, e2⟩ := h.p.forms
  obtain ⟨ob, kb, e3, -⟩ := h.b.row
  exact ⟨o1, k1, o2, k2, ob, kb, e1, e2, e3⟩

/-- A shelf of one's own. -/
structure OwnS (base : Nat) (w : World) (v1 v2 vb : Value) (cs ps : List Int) (bks : List Bk) : Prop where
  p : OwnP base w v1 v2 cs ps
  b : OwnB base w vb bks
  a : ApartM bks

theorem OwnS.below {base : Nat} {w w' : World} {v1 v2 vb : Value} {cs ps : List Int} {bks : List Bk} (h : OwnS base w v1 v2 vb cs ps bks) (k : Below w.heap.size w w') : OwnS base w' v1 v2 vb cs ps bks := ⟨h.p.below k, h.b.below k, h.a⟩

theorem OwnS.mono {base base' : Nat} {w : World} {v1 v2 vb : Value} {cs ps : List Int} {bks : List Bk} (h : OwnS base w v1 v2 vb cs ps bks) (k : base' ≤ base) : OwnS base' w v1 v2 vb cs ps bks := ⟨h.p.mono k, h.b.mono k, h.a⟩

theorem OwnS.reads {base : Nat} {w : World} {v1 v2 vb : Value} {cs ps : List Int} {bks : List Bk} (h : OwnS base w v1 v2 vb cs ps bks) : RS w.heap.size w v1 v2 vb cs ps bks := ⟨h.p.reads, h.b.reads⟩

theorem OwnB.upto {base c : Nat} {w w' : World} {v : Value} {bs : List Bk} (h : OwnB base w v bs) (u : Upto c w w') (hc : c < base) : OwnB base w' v bs := ⟨ownsRow_upto h.row u hc, fun b hb => ownsRow_upto (h.maps b hb) u hc⟩

theorem OwnS.upto {base c : Nat} {w w' : World} {v1 v2 vb : Value} {cs ps : List Int} {bks : List Bk} (h : OwnS base w v1 v2 vb cs ps bks) (u : Upto c w w') (hc : c < base) : OwnS base w' v1 v2 vb cs ps bks := ⟨h.p.upto u hc, h.b.upto u hc, h.a⟩

theorem OwnS.forms {base : Nat} {w : World} {v1 v2 vb : Value} {cs ps : List Int} {bks : List Bk} (h : OwnS base w v1 v2 vb cs ps bks) : ∃ o1 k1 o2 k2 ob kb, v1 = .slice o1 cs.length k1 ∧ v2 = .slice o2 ps.length k2 ∧ vb = .slice ob bks.length kb := h.reads.forms

theorem pb_of_plain {bs ms : List Bk} (h : ms.map plainB = bs.map plainB) : ms.map Bk.pb = bs.map Bk.pb := by
  have := congrArg (List.map (fun x : ByteArray × Int × List (Int × Int × Int) × Bool × Int => (⟨x.1, x.2.1, x.2.2.1, x.2.2.2.1, x.2.2.2.2⟩ : Pb))) h
  simp only [List.map_map] at this
  exact this

theorem plain_all (Q : ByteArray → List (Int × Int × Int) → Prop) {bs ms : List Bk} (h : ms.map plainB = bs.map plainB) (hq : ∀ b ∈ bs, Q b.nm b.rs) : ∀ b ∈ ms, Q b.nm b.rs := fun b hb => by
  obtain ⟨j, hj, rfl⟩ := List.getElem_of_mem hb
  have hl := plain_len h
  have e := plain_at h j hj (by omega)
  have hx := hq _ (List.getElem_mem (show j < bs.length by omega))
  simp only [plainB, Prod.mk.injEq] at e
  rw [e.1, e.2.2.1]
  exact hx

set_option maxHeartbeats 3200000 in
theorem toShelf_any (v1 v2 vb : Value) (cs ps : List Int) (bks : List Bk) (w : World) (hc : cs.length ≤ 1048576) (hp : ps.length ≤ 1048576) (hb : bks.length ≤ 1048576) (hr : ∀ b ∈ bks, b.rs.length ≤ 1048576) (r : RS w.heap.size w v1 v2 vb cs ps bks) :
    Calls Try.prog 21 #[.agg #[v1, v2, vb]] w fun e w' => ∃ (u1 u2 ub : Value) (ms : List Bk), e = .returned (.agg #[u1, u2, ub]) ∧ ms.map plainB = bks.map plainB ∧ OwnS w.heap.size w' u1 u2 ub cs ps ms ∧ Below w.heap.size w w' := by
  obtain ⟨o1, k1, o2, k2, ob, kb, rfl, rfl, rfl⟩ := r.forms
  obtain ⟨W0, hW0, kA, kR, kO, d0, z0⟩ := box3 w #[.slice o1 cs.length k1, .slice o2 ps.length k2, .slice ob bks.length kb] #[.slice none 0 0, .slice none 0 0, .slice none 0 0] #[.slice none 0 0, .slice none 0 0, .slice none 0 0] 57 29 29
  have HW0 : Hid (W0 = _) := hW0
  have HR : Hid _ := hr
  have r0 := (r.below d0)
  have z0a : w.heap.size + 1 + 1 + 1 ≤ W0.heap.size := by omega
  clear hW0 z0 r hr
  go_enter Try.func21, Try.ntmps21
  go_wp2_with fail
  rw [← HW0.out]
  clear HW0
  refine (toPool_any _ _ cs ps _ hc hp (r0.p.mono (by omega))).mono ?_
  rintro e w1 ⟨u1, u2, rfl, own1, b1⟩
  obtain ⟨q1, c1, q2, c2, e1, e2⟩ := own1.forms
  subst e1 e2
  replace kA := (b1.block _ (by omega)).trans kA
  replace kR := (b1.block _ (by omega)).trans kR
  replace kO := (b1.block _ (by omega)).trans kO
  have z1 := b1.size
  replace d0 := bw_call d0 b1
  replace r0 := r0.below (b1.mono (by omega))
  have c0 := at_cell kO 0
  have c0' := at_cell kO 1
  have f0 := at_open kO 0
  have f0' := at_open kO 1
  have u : Upto (w.heap.size + 1 + 1) w1 ((w1.setCell ⟨w.heap.size + 1 + 1, 0, none⟩ (.slice q1 cs.length c1)).setCell ⟨w.heap.size + 1 + 1, 1, none⟩ (.slice q2 ps.length c2)) := ((Upto.refl _ _).setCell ⟨w.heap.size + 1 + 1, 0, none⟩ (.inl rfl) _).setCell ⟨w.heap.size + 1 + 1, 1, none⟩ (.inl rfl) _
  replace kO := set_at (set_at kO 0 (.slice q1 cs.length c1)) 1 (.slice q2 ps.length c2)
  replace kA := (u.block _ (by omega) (by omega)).trans kA
  replace kR := (u.block _ (by omega) (by omega)).trans kR
  replace own1 := own1.upto u (by omega)
  replace d0 := d0.trans (u.toBelow (by omega) (by omega))
  replace r0 := r0.below (u.toBelow (by omega) (by omega))
  have z2 := u.size
  have p1 := at_cell kA 2
  clear b1 u
  go_wp2_with fail
  generalize (w1.setCell ⟨w.heap.size + 1 + 1, 0, none⟩ (.slice q1 cs.length c1)).setCell ⟨w.heap.size + 1 + 1, 1, none⟩ (.slice q2 ps.length c2) = w2 at *
  clear f0 c0 f0' c0' p1
  refine (toBooksA_any _ bks _ hb HR.out (r0.b.mono (by omega))).mono ?_
  rintro e w3 ⟨ms, rfl, hpl, ownB, apa, b3⟩
  replace kR := (b3.block _ (by omega)).trans kR
  replace kO := (b3.block _ (by omega)).trans kO
  replace own1 := own1.below b3
  have z3 := b3.size
  replace d0 := bw_call d0 b3
  have c0 := at_cell kO 0
  have c1' := at_cell kO 1
  have c2' := at_cell kO 2
  have f2' := at_open kO 2
  have u : Upto (w.heap.size + 1 + 1) w3 (w3.setCell ⟨w.heap.size + 1 + 1, 2, none⟩ (.slice (some ⟨w2.heap.size, 0, none⟩) bks.length bks.length)) := (Upto.refl _ _).setCell ⟨w.heap.size + 1 + 1, 2, none⟩ (.inl rfl) _
  replace kO := set_at kO 2 (.slice (some ⟨w2.heap.size, 0, none⟩) bks.length bks.length)
  replace kR := (u.block _ (by omega) (by omega)).trans kR
  replace own1 := own1.upto u (by omega)
  replace ownB := ownB.upto u (by omega)
  replace d0 := d0.trans (u.toBelow (by omega) (by omega))
  have z4 := u.size
  have q0 := at_cell kR 0
  have q1' := at_cell kR 1
  have q2' := at_cell kR 2
  have g0 := at_open kR 0
  have g1 := at_open kR 1
  have g2 := at_open kR 2
  have a0 := at_cell kO 0
  have a1 := at_cell kO 1
  have a2 := at_cell kO 2
  have kE := set_at (set_at (set_at kR 0 (.slice q1 cs.length c1)) 1 (.slice q2 ps.length c2)) 2 (.slice (some ⟨w2.heap.size, 0, none⟩) bks.length bks.length)
  have uE : ∀ X : World, Upto (w.heap.size + 1) X (((X.setCell ⟨w.heap.size + 1, 0, none⟩ (.slice q1 cs.length c1)).setCell ⟨w.heap.size + 1, 1, none⟩ (.slice q2 ps.length c2)).setCell ⟨w.heap.size + 1, 2, none⟩ (.slice (some ⟨w2.heap.size, 0, none⟩) bks.length bks.length)) := fun X => (((Upto.refl _ _).setCell ⟨w.heap.size + 1, 0, none⟩ (.inl rfl) _).setCell ⟨w.heap.size + 1, 1, none⟩ (.inl rfl) _).setCell ⟨w.heap.size + 1, 2, none⟩ (.inl rfl) _
  have HS : Hid _ := And.intro kE (And.intro ((own1.upto (uE _) (by omega)).mono (show w.heap.size ≤ W0.heap.size by omega)) (And.intro ((ownB.upto (uE _) (by omega)).mono (show w.heap.size ≤ w2.heap.size by omega)) (d0.trans ((uE _).toBelow (by omega) (by omega)))))
  have HPL : Hid _ := hpl
  have HAP : Hid _ := apa
  clear b3 u kE uE kR kO kA own1 ownB d0 r0 hpl apa
  go_wp2_with fail
  exact bodyPost_ret (v := .agg #[.slice q1 cs.length c1, .slice q2 ps.length c2, .slice (some ⟨w2.heap.size, 0, none⟩) bks.length bks.length]) (by simp [results, Try.results21, go_sem, at_cell HS.out.1]) rfl ⟨_, _, _, ms, rfl, HPL.out, ⟨HS.out.2.1, HS.out.2.2.1, HAP.out⟩, HS.out.2.2.2⟩

set_option maxHeartbeats 1600000 in
theorem eqShelf_same (v1 v2 vb x1 x2 xb : Value) (cs ps : List Int) (bks ms : List Bk) (w : World) (hp : ms.map plainB = bks.map plainB) (r : RS w.heap.size w v1 v2 vb cs ps bks) (r' : RS w.heap.size w x1 x2 xb cs ps ms) :
    Calls Try.prog 22 #[.agg #[v1, v2, vb], .agg #[x1, x2, xb]] w fun e w' => e = .returned (.bool true) ∧ Below w.heap.size w w' := by
  obtain ⟨o1, k1, o2, k2, ob, kb, rfl, rfl, rfl⟩ := r.forms
  obtain ⟨o3, k3, o4, k4, oc, kc, rfl, rfl, rfl⟩ := r'.forms
  obtain ⟨W0, hW0, kA, kB, d0, z0⟩ := box2 w #[.slice o1 cs.length k1, .slice o2 ps.length k2, .slice ob bks.length kb] #[.slice o3 cs.length k3, .slice o4 ps.length k4, .slice oc ms.length kc] 29 29
  have HW0 : Hid (W0 = _) := hW0
  have HP : Hid _ := hp
  have r0 := (r.below d0).mono d0.size
  have r1 := (r'.below d0).mono d0.size
  clear hW0 z0 r r' hp
  go_enter Try.func22, Try.ntmps22
  go_wp2_with fail
  rw [← HW0.out]
  clear HW0
  refine (eqPool_any _ _ _ _ cs ps cs ps _ r0.p r1.p).mono ?_
  rintro e w1 ⟨rfl, b1⟩
  replace kA := (b1.block _ (heap_lt kA)).trans kA
  replace kB := (b1.block _ (heap_lt kB)).trans kB
  replace d0 := bw_call d0 b1
  replace r0 := (r0.below b1).mono b1.size
  replace r1 := (r1.below b1).mono b1.size
  clear b1
  have e1 : (decide (cs = cs) && decide (ps = ps)) = true := by simp
  have pA := at_cell kA 2
  have pB := at_cell kB 2
  go_wp2_with fail
  clear pA pB
  refine (eqBooks_same _ _ bks ms _ HP.out r0.b r1.b).mono ?_
  rintro e w2 ⟨rfl, b2⟩
  replace d0 := bw_call d0 b2
  clear b2 kA kB r0 r1
  go_wp2_with fail
  go_ret
  exact ⟨rfl, d0⟩
end Go.Proofs.Ytkjdfgjmkomcgaa

namespace Go.Proofs.Ytkjdfgjmkomcgaa
open Go.ChangeShapes Go.WideShapes Go.ChangeAt Go.RowKit Go.Deep Go.Joins

set_option linter.unusedVariables false

set_option maxRecDepth 100000


theorem row_books {H : Type} {enc : TypeId × Value → H} {W : World} {n : Nat} {v : Value} {y : DataW H × List MemPlace} (h : DataW.trod enc Try.prog W 0 (fun _ => true) true n 55 [v] = some y) :
    ∃ bs : List Bk, ReadsB W.heap.size W v bs ∧ ∀ b ∈ bs, FitRuns b.rs ∧ b.nm.size ≤ maxLen := by
  rcases open_slice Try.underlying55 h with ⟨hcs, _⟩ | ⟨a, len, cap, m, k, D, Pl, hcs, _, hl, hm, hmm, _, hx⟩
  · simp at hcs
    subst hcs
    exact ⟨[], ⟨ReadsR.nil _ _ _ _, fun b hb => by cases hb⟩, fun b hb => by cases hb⟩
  · simp at hcs
    subst hcs
    have hlm : len ≤ m := by rw [hmm]; split <;> omega
    have ce : Try.prog.cellsOf 127 = 5 := by kernel_rfl
    have each : ∀ i, i < len → ∃ b : Bk, (∀ j u, (bookC b)[j]? = some u → W.cell? (a.add (i * 5 + j)) = some u) ∧ ReadsR 3 runC W.heap.size W b.m b.rs ∧ FitRuns b.rs ∧ b.nm.size ≤ maxLen := by
      intro i hi
      obtain ⟨cs', h1, h2⟩ := hx i (by omega)
      rw [ce] at h1
      obtain ⟨_, hlen, hcell⟩ := World.cells?_some h1
      obtain ⟨b, rfl, hr, hfit, hnn, -, -⟩ := book_cells h2
      refine ⟨b, fun j u hj => ?_, hr, hfit, hnn⟩
      have hj5 : j < 5 := by have := (List.getElem?_eq_some_iff.1 hj).1; rwa [bookC_len] at this
      have q := hcell j hj5
      rw [add_add] at q
      rw [q]
      exact hj
    have hin : Inhabited Bk := ⟨⟨ByteArray.empty, 0, .slice none 0 0, [], false, 0⟩⟩
    obtain ⟨r, hr⟩ := choose_lt each
    have hmem : ∀ x ∈ (List.range len).map r, ReadsR 3 runC W.heap.size W x.m x.rs ∧ FitRuns x.rs ∧ x.nm.size ≤ maxLen := fun x hx => by
      obtain ⟨i, hi, rfl⟩ := List.mem_map.1 hx
      exact (hr i (List.mem_range.1 hi)).2
    refine ⟨(List.range len).map r, ⟨⟨some a, cap, by simp, by simp; omega, fun i x hi => ?_, by simp; omega⟩, fun b hb => (hmem b hb).1⟩, fun b hb => (hmem b hb).2⟩
    have hil : i < len := by have := (List.getElem?_eq_some_iff.1 hi).1; simpa using this
    have ex : r i = x := by
      rw [List.getElem?_map, List.getElem?_range hil] at hi
      simpa using hi
    have h0 := (hr i hil).1
    rw [ex] at h0
    obtain ⟨b, off, spot⟩ := a
    have hspot : spot = none := by simpa [Addr.add] using World.cell?_spot ((hr 0 (by omega)).1 0 _ rfl)
    subst hspot
    have e : ∀ z, (⟨b, off, none⟩ : Addr).add z = ⟨b, off + z, none⟩ := fun z => by unfold Addr.add; split <;> simp_all
    have hb : b < W.heap.size := by
      have q := h0 0 _ rfl
      rw [e] at q
      rcases Nat.lt_or_ge b W.heap.size with g | g
      · exact g
      · simp [World.cell?, Array.getElem?_eq_none g] at q
    refine ⟨b, off, rfl, hb, fun j u hj => ?_⟩
    have q := h0 j u hj
    rw [e] at q
    rw [Nat.add_assoc]
    exact q

theorem list3 {α : Type} {cs : List α} (h : cs.length = 3) : ∃ c0 c1 c2, cs = [c0, c1, c2] := by
  match cs, h with
  | [c0, c1, c2], _ => exact ⟨c0, c1, c2, rfl⟩

theorem list2 {α : Type} {cs : List α} (h : cs.length = 2) : ∃ c0 c1, cs = [c0, c1] := by
  match cs, h with
  | [c0, c1], _ => exact ⟨c0, c1, rfl⟩

theorem open_shelf {H : Type} {enc : TypeId × Value → H} {W : World} {base : Nat} {v : Value} {d : DataW H} {p : List MemPlace} (hv : Value.okWide Try.prog W .any base 57 v) (h : DataW.Trod enc Try.prog W 0 (fun _ => true) true 57 v d p) :
    ∃ (v1 v2 vb : Value) (cs ps : List Int) (bks : List Bk), v = .agg #[v1, v2, vb] ∧ RS W.heap.size W v1 v2 vb cs ps bks ∧ ∀ b ∈ bks, FitRuns b.rs ∧ b.nm.size ≤ maxLen := by
  obtain ⟨cs, rfl, hsz⟩ := okWide_struct Try.underlying57 hv
  obtain ⟨fuel, hf0⟩ := h
  have ce : Try.prog.cellsOf 57 = 3 := by kernel_rfl
  have cp : Try.prog.cellsOf 54 = 2 := by kernel_rfl
  have c1 : Try.prog.cellsOf 24 = 1 := by kernel_rfl
  have c4 : Try.prog.cellsOf 55 = 1 := by kernel_rfl
  obtain ⟨xs, m, _, -, hl, hlen, hf⟩ := DataW.trod_struct Try.underlying57 hf0
  obtain ⟨v0, v1, v2, e3⟩ := list3 (hl.trans ce)
  rw [e3] at hf
  obtain ⟨y0, y1, rfl⟩ := list2 (show xs.length = 2 from hlen)
  have t0 := hf 0 _ rfl
  have t1 := hf 1 _ rfl
  simp [cp, c4] at t0 t1
  obtain ⟨xs', m', _, -, hl', hlen', hf'⟩ := DataW.trod_struct Try.underlying54 t0
  obtain ⟨z0, z1, rfl⟩ := list2 (show xs'.length = 2 from hlen')
  have s0 := hf' 0 _ rfl
  have s1 := hf' 1 _ rfl
  simp [c1] at s0 s1
  obtain ⟨ics, r1, _⟩ := row_i64 s0
  obtain ⟨ips, r2, _⟩ := row_i64 s1
  obtain ⟨bks, r3, hb⟩ := row_books t1
  refine ⟨v0, v1, v2, ics, ips, bks, ?_, ⟨⟨r1, r2⟩, r3⟩, hb⟩
  have e4 : cs.toList = [v0, v1, v2] := by simpa [Value.cells] using e3
  rw [show cs = #[v0, v1, v2] by rw [← Array.toArray_toList (xs := cs), e4]]
end Go.Proofs.Ytkjdfgjmkomcgaa

