/-
  Contracts and plain laws, one chapter behind the other.
-/
import Derived.Deep.RegionLaw
import Derived.Test.YtibhepekmihagaaGreatDoorM01
import Derived.Test.YtibhepekmihagaaGreatDoorM12
import Derived.Test.YtibhepekmihagaaGreatDoorM13
import Derived.Test.YtibhepekmihagaaGreatDoorM16
import Derived.Test.YtibhepekmihagaaGreatDoorM17
namespace Go.Proofs.YtibhepekmihagaaGreatDoor
open Go.RowKit

set_option linter.unusedVariables false

set_option maxRecDepth 100000


theorem step_append {P : Program} {w : World} {ops : Array Oper} {o : Oper} {a : Act} {K : Act → World → Prop} {Q : Exit → Act → World → Prop} {E : Prop} (hgd : o.guard = none) (s x : Operand) (t : TypeId)
    (ho : o.op = .call { callee := .builtin .append, args := #[s, x], argTypes := #[t, t] })
    (base : Nat) (e : TypeId) (i : TypeInfo) (z : Value) (size bytes : Nat) (ht : P.underlying t = some (.slice e)) (hi : P.info? e = some i) (hz : i.zero = some z)
    (hsize : i.size = size) (hby : i.bytes = bytes) (hzs : z.cells.size = size) (hsz : 0 < size)
    (v : Value) (n : Nat) (xs : List Value) (hs : a.eval s = v) (hown : w.ownsRow base e size v n xs)
    (ad : Addr) (m c : Nat) (news : List Value) (hx : a.eval x = .slice (some ad) m c) (hl : news.length = m * size) (hnews : ∀ j u, news[j]? = some u → w.cell? (ad.add j) = some u) (h1 : ∀ u ∈ news, u.oneCell' = true)
    (h63 : n + m ≤ maxLen) (hbytes : (n + m) * bytes ≤ 140737488355328) (hbase : base ≤ w.heap.size)
    (h : ∀ v' w', w'.ownsRow base e size v' (n + m) (xs ++ news) → w.grownBy w' v.ownBlock → (v' = .slice none 0 0 ↔ v = .slice none 0 0 ∧ m = 0) → K (a.put o.dst v') w') :
    if Region.wanted o (yielded ops a.tmps) = true then Oper.wp P o a w K Q else E := by
  have hw : Region.wanted o (yielded ops a.tmps) = true := by simp [Region.wanted, hgd]
  rw [if_pos hw]
  exact wp_append_own w s x t ho base e i z size bytes ht hi hz hsize hby hzs hsz v n xs hs hown ad m c news hx hl hnews h1 h63 hbytes hbase h
end Go.Proofs.YtibhepekmihagaaGreatDoor

namespace Go.Proofs.YtibhepekmihagaaGreatDoor
open Go.RowKit

set_option linter.unusedVariables false

set_option maxRecDepth 100000


theorem flat_srcM {α : Type} {k : Nat} {cs : α → List Value} (hk : ∀ x, (cs x).length = k) (hk0 : 0 < k) {B : Nat} {w : World} {g off n cap : Nat} {xs : List α} (h : ReadsR k cs B w (.slice (some ⟨g, off, none⟩) n cap) xs) : ∀ j u, (xs.flatMap cs)[j]? = some u → w.cell? ((⟨g, off, none⟩ : Addr).add j) = some u := fun j u hj => by
  obtain ⟨o', cap', e, -, hc, -⟩ := h
  simp only [Value.slice.injEq] at e
  obtain ⟨rfl, rfl, rfl⟩ := e
  have hjl := (List.getElem?_eq_some_iff.1 hj).1
  rw [flat_length hk] at hjl
  have hi3 : j / k < xs.length := Nat.div_lt_of_lt_mul (by rw [Nat.mul_comm]; exact hjl)
  obtain ⟨g', off', e, hg, hx⟩ := hc (j / k) xs[j / k] (List.getElem?_eq_getElem hi3)
  simp only [Option.some.injEq, Addr.mk.injEq, and_true] at e
  obtain ⟨rfl, rfl⟩ := e
  have hr : j % k < k := Nat.mod_lt _ hk0
  have he : j / k * k + j % k = j := by rw [Nat.mul_comm]; exact Nat.div_add_mod j k
  have h1 := flat_get hk xs (j / k) (j % k) xs[j / k] (List.getElem?_eq_getElem hi3) hr
  rw [he, hj] at h1
  have h2 := hx (j % k) u h1.symm
  have ea : (⟨g, off, none⟩ : Addr).add j = ⟨g, off + j, none⟩ := by unfold Addr.add; split <;> simp_all
  rw [ea]
  rw [Nat.add_assoc, he] at h2
  exact h2

theorem reps_one (rs : List (Int × Int)) : ∀ u ∈ rs.flatMap repC, u.oneCell' = true := fun u hu => by
  obtain ⟨x, _, hx⟩ := List.mem_flatMap.1 hu
  simp [repC] at hx
  rcases hx with rfl | rfl <;> rfl

/-- A row of one's own stays where a box of another type is written. -/
theorem own_box_upto {w w' : World} {base b : Nat} {e : TypeId} {size : Nat} {v : Value} {n : Nat} {xs : List Value} {cs : Array Value} {t : TypeId} (h : w.ownsRow base e size v n xs) (k : w.heap[b]? = some (.cells cs t (0, 0))) (ht : t ≠ e) (u : Upto b w w') : w'.ownsRow base e size v n xs :=
  own_rng_not h fun g hg hv => u.block g hg fun e => own_not_box h k ht (by rw [hv, e])

theorem OwnM.box {base b : Nat} {w w' : World} {v1 v2 : Value} {ts : List Int} {rs : List (Int × Int)} {cs : Array Value} (h : OwnM base w v1 v2 ts rs) (k : w.heap[b]? = some (.cells cs 31 (0, 0))) (u : Upto b w w') : OwnM base w' v1 v2 ts rs := ⟨own_box_upto h.t k (by decide) u, own_box_upto h.r k (by decide) u⟩

/-- The answer's box is written. -/
theorem mem_end (w W : World) (u1 u2 x y : Value) (b : Nat) (ts : List Int) (rs : List (Int × Int)) (hb : w.heap.size ≤ b) (k : W.heap[b]? = some (.cells #[x, y] 31 (0, 0))) (own : OwnM w.heap.size W u1 u2 ts rs) (d : Below w.heap.size w W) :
    ((W.setCell ⟨b, 0, none⟩ u1).setCell ⟨b, 1, none⟩ u2).heap[b]? = some (.cells #[u1, u2] 31 (0, 0)) ∧ OwnM w.heap.size ((W.setCell ⟨b, 0, none⟩ u1).setCell ⟨b, 1, none⟩ u2) u1 u2 ts rs ∧ Below w.heap.size w ((W.setCell ⟨b, 0, none⟩ u1).setCell ⟨b, 1, none⟩ u2) := by
  obtain ⟨h1, h2⟩ := set_two k u1 u2
  exact ⟨h1, own.box k h2, d.trans (h2.toBelow d.size (by omega))⟩

set_option maxHeartbeats 1600000 in
theorem l12Copy_any (v1 v2 : Value) (ts : List Int) (rs : List (Int × Int)) (w : World) (h1 : ts.length = 4) (h2 : rs.length = 4) (r : RM w.heap.size w v1 v2 ts rs) :
    Calls Tryz.prog 115 #[.agg #[v1, v2]] w fun e w' => ∃ u1 u2 : Value, e = .returned (.agg #[u1, u2]) ∧ OwnM w.heap.size w' u1 u2 ts rs ∧ Below w.heap.size w w' := by
  obtain ⟨j0, ji, jz0, jz1, jz2⟩ := info_parts Tryz.infoRep
  obtain ⟨o1, cap1, o2, cap2, rfl, rfl⟩ := r.forms
  obtain ⟨g2, of2, rfl⟩ : ∃ g2 of2, o2 = some ⟨g2, of2, none⟩ := by
    obtain ⟨o', cap', e, -, hc, -⟩ := r.r
    simp only [Value.slice.injEq] at e
    obtain ⟨rfl, -, -⟩ := e
    obtain ⟨g, off, e, -⟩ := hc 0 _ (List.getElem?_eq_getElem (by omega))
    exact ⟨g, off, e⟩
  obtain ⟨W0, hW0, k0, k1, d0, z0⟩ := box2 w #[.slice o1 ts.length cap1, .slice (some ⟨g2, of2, none⟩) rs.length cap2] #[.slice none 0 0, .slice none 0 0] 31 31
  have HW0 : Hid (W0 = _) := hW0
  have r0 := (r.below d0).mono d0.size
  have RT : ∀ W', Below W0.heap.size W0 W' → Reads W'.heap.size W' (.slice o1 ts.length cap1) (ts.map (Value.int .i64)) := fun W' b => (r0.t.below b).mono b.size
  have RR : ∀ W', Below W0.heap.size W0 W' → ∀ j u, (rs.flatMap repC)[j]? = some u → W'.cell? ((⟨g2, of2, none⟩ : Addr).add j) = some u := fun W' b => flat_srcM repC_len (by decide) (r0.r.below b)
  have HLEN : Hid ((rs.flatMap repC).length = rs.length * 2) := flat_length repC_len rs
  have HMX : Hid (0 + rs.length ≤ maxLen) := by rw [Hid, h2]; unfold maxLen; omega
  have HBY : Hid ((0 + rs.length) * 16 ≤ 140737488355328) := by rw [Hid, h2]; omega
  have hts : ts.length ≤ 1048576 := by omega
  have HON : ∀ W : World, (W.alloc (.cells #[] 126)).ownsRow W.heap.size 126 2 (.slice (some ⟨W.heap.size, 0, none⟩) 0 0) 0 [] := fun W => World.ownsRow_lit W #[] 0 (Nat.le_refl _) (Nat.zero_le _) rfl
  have HKeep : ∀ W', Upto (w.heap.size + 1) W0 W' → (W'.cell? ⟨w.heap.size, 0, none⟩ = some (.slice o1 ts.length cap1) ∧ W'.cell? ⟨w.heap.size, 1, none⟩ = some (.slice (some ⟨g2, of2, none⟩) rs.length cap2)) := fun W' b =>
    ⟨(b.cell (p := ⟨w.heap.size, 0, none⟩) (heap_lt k0) (by simp)).trans (at_cell k0 0), (b.cell (p := ⟨w.heap.size, 1, none⟩) (heap_lt k0) (by simp)).trans (at_cell k0 1)⟩
  have hK1 := k1
  have s1 := heap_lt k1
  clear hW0 r r0 h1 h2
  go_enter Tryz.func115, Tryz.ntmps115
  go_upto_region 1 with fail
  rw [← HW0.out]
  clear HW0
  go_region_held3 (fun w' => w'.cell? ⟨w.heap.size, 0, none⟩ = some (.slice o1 ts.length cap1) ∧ w'.cell? ⟨w.heap.size, 1, none⟩ = some (.slice (some ⟨g2, of2, none⟩) rs.length cap2))
    ((refine HKeep _ ?_; repeat (first | exact U6 | exact U5 | exact Upto.refl _ _ | (apply Upto.setCell; rotate_left; exact Or.inl rfl) | refine Upto.drew ?_ | refine Upto.alloc ?_ _)))
    ((first
      | (go_simp; go_at_call 149; first
          | (refine (l1Copy_any _ ts _ hts (RT W0.drew (bw_drew (Below.refl _ _)))).mono ?_; rintro e w5 ⟨v5, rfl, own5, hn5, b5⟩; obtain ⟨o5, c5, rfl⟩ := own_slice own5; have B5 : Below W0.heap.size W0 w5 := bw_call (bw_drew (Below.refl _ _)) b5; have U5 : Upto (w.heap.size + 1) W0 w5 := Upto.ofBelow B5; dsimp only)
          | (refine (l1Copy_any _ ts _ hts (RT (W0.drew.alloc (.cells #[] 126)) (bw_alloc (bw_drew (Below.refl _ _))))).mono ?_; rintro e w5 ⟨v5, rfl, own5, hn5, b5⟩; obtain ⟨o5, c5, rfl⟩ := own_slice own5; have B5 : Below W0.heap.size W0 w5 := bw_call (bw_alloc (bw_drew (Below.refl _ _))) b5; have U5 : Upto (w.heap.size + 1) W0 w5 := Upto.ofBelow B5; dsimp only))
      | (refine step_append rfl (.tmp 6) (.tmp 8) 29 rfl W0.heap.size 126 j0 (.agg #[.int .i64 0, .int .i64 0]) 2 16 Tryz.underlying29 ji jz0 jz1 jz2 rfl (by decide) (.slice (some ⟨W0.heap.size, 0, none⟩) 0 0) 0 [] (by simp [Act.eval]) (owns_below (HON W0.drew) b5) ⟨g2, of2, none⟩ rs.length cap2 (rs.flatMap repC) (by simp [Act.eval]) HLEN.out (RR w5 B5) (reps_one rs) HMX.out HBY.out B5.size ?_; intro v6 w6 hown6 hgrow6 hnil6; obtain ⟨o6, c6, rfl⟩ := own_slice hown6; have B6 : Below W0.heap.size W0 w6 := Below.grown B5 hgrow6 B5.size (fun q hq => by simp [Value.ownBlock] at hq; omega); have U6 : Upto (w.heap.size + 1) W0 w6 := Upto.ofBelow B6; have k6 := (B6.block _ s1).trans hK1; have q0 := at_cell k6 0; have q1 := at_cell k6 1; have f0 := at_open k6 0; have f1 := at_open k6 1)
      | (refine step_append rfl (.tmp 6) (.tmp 8) 29 rfl w5.heap.size 126 j0 (.agg #[.int .i64 0, .int .i64 0]) 2 16 Tryz.underlying29 ji jz0 jz1 jz2 rfl (by decide) (.slice (some ⟨w5.heap.size, 0, none⟩) 0 0) 0 [] (by simp [Act.eval]) (HON w5) ⟨g2, of2, none⟩ rs.length cap2 (rs.flatMap repC) (by simp [Act.eval]) HLEN.out (RR (w5.alloc (.cells #[] 126)) (bw_alloc B5)) (reps_one rs) HMX.out HBY.out (by simp) ?_; intro v6 w6 hown6 hgrow6 hnil6; obtain ⟨o6, c6, rfl⟩ := own_slice hown6; have B6 : Below W0.heap.size W0 w6 := Below.grown (bw_alloc B5) hgrow6 (by simp; have := B5.size; omega) (fun q hq => by simp [Value.ownBlock] at hq; have := B5.size; omega); have U6 : Upto (w.heap.size + 1) W0 w6 := Upto.ofBelow B6; have k6 := (B6.block _ s1).trans hK1; have q0 := at_cell k6 0; have q1 := at_cell k6 1; have f0 := at_open k6 0; have f1 := at_open k6 1)))
  · have own5w := own5.alloc (.cells #[] 126)
    have own56 := owns_mono (own_rng_not own5w (fun g hg hv => hgrow6.block g hg (rows_two own5w (HON w5) (by decide) g hv).symm)) (show w.heap.size ≤ _ from d0.size)
    have own66 : w6.ownsRow w.heap.size 126 2 (.slice o6 rs.length c6) rs.length (rs.flatMap repC) := owns_mono (by simpa using hown6) (Nat.le_trans d0.size B5.size)
    have HS : Hid _ := mem_end w w6 _ _ _ _ (w.heap.size + 1) ts rs (by omega) k6 ⟨own56, own66⟩ (bw_call d0 B6)
    clear own5w own56 own66 own5 hown6 hgrow6 hnil6 B5 B6 U5 U6 b5 k6 q0 q1 f0 f1 HKeep HON RR RT k0 k1 hK1 hn5
    go_wp2_with fail
    exact bodyPost_ret (v := .agg #[.slice o5 ts.length c5, .slice o6 rs.length c6]) (by simp [results, Tryz.results115, go_sem, at_cell HS.out.1]) rfl ⟨_, _, rfl, HS.out.2⟩
  · have own56 := owns_mono (own_rng_not own5 (fun g hg hv => hgrow6.block g hg (rows_two own5 (owns_below (HON W0.drew) b5) (by decide) g hv).symm)) (show w.heap.size ≤ _ from Nat.le_trans d0.size (by simp))
    have own66 : w6.ownsRow w.heap.size 126 2 (.slice o6 rs.length c6) rs.length (rs.flatMap repC) := owns_mono (by simpa using hown6) d0.size
    have HS : Hid _ := mem_end w w6 _ _ _ _ (w.heap.size + 1) ts rs (by omega) k6 ⟨own56, own66⟩ (bw_call d0 B6)
    clear own56 own66 own5 hown6 hgrow6 hnil6 B5 B6 U5 U6 b5 k6 q0 q1 f0 f1 HKeep HON RR RT k0 k1 hK1 hn5
    go_wp2_with fail
    exact bodyPost_ret (v := .agg #[.slice o5 ts.length c5, .slice o6 rs.length c6]) (by simp [results, Tryz.results115, go_sem, at_cell HS.out.1]) rfl ⟨_, _, rfl, HS.out.2⟩
end Go.Proofs.YtibhepekmihagaaGreatDoor

namespace Go.Proofs.YtibhepekmihagaaGreatDoor
open Go.RowKit

set_option linter.unusedVariables false

set_option maxRecDepth 100000


theorem OwnM.forms {base : Nat} {w : World} {v1 v2 : Value} {ts : List Int} {rs : List (Int × Int)} (h : OwnM base w v1 v2 ts rs) : ∃ o1 c1 o2 c2, v1 = .slice o1 ts.length c1 ∧ v2 = .slice o2 rs.length c2 := by
  obtain ⟨o1, c1, h1⟩ := own_slice h.t
  obtain ⟨o2, c2, h2⟩ := own_slice h.r
  exact ⟨o1, c1, o2, c2, h1, h2⟩

set_option maxHeartbeats 800000 in
theorem eqMemo_any (a1 a2 b1 b2 : Value) (cs : List Int) (ps : List (Int × Int)) (cs' : List Int) (ps' : List (Int × Int)) (w : World) (r : RM w.heap.size w a1 a2 cs ps) (r' : RM w.heap.size w b1 b2 cs' ps') :
    Calls Tryz.prog 17 #[.agg #[a1, a2], .agg #[b1, b2]] w fun e w' => e = .returned (.bool (decide (cs = cs') && decide (ps = ps'))) ∧ Below w.heap.size w w' := by
  obtain ⟨W0, hW0, k0, k1, d0, z0⟩ := box2 w #[a1, a2] #[b1, b2] 31 31
  have r0 := (r.below d0).mono d0.size
  have r1 := (r'.below d0).mono d0.size
  have HW0 : Hid (W0 = _) := hW0
  clear hW0 r r'
  go_enter Tryz.func17, Tryz.ntmps17
  go_wp2_with fail
  rw [← HW0.out]
  clear HW0
  refine (eqInts_any a1 b1 cs cs' _ r0.t r1.t).mono ?_
  rintro e w1 ⟨rfl, b⟩
  replace k0 := (b.block _ (by omega)).trans k0
  replace k1 := (b.block _ (by omega)).trans k1
  replace d0 := bw_call d0 b
  replace r0 := (r0.below b).mono b.size
  replace r1 := (r1.below b).mono b.size
  have p0 := at_cell k0 1
  have p1 := at_cell k1 1
  by_cases hc : cs = cs'
  · rw [decide_eq_true hc]
    go_wp2_with fail
    refine (eqReps_any a2 b2 ps ps' _ r0.r r1.r).mono ?_
    rintro e w2 ⟨rfl, b2'⟩
    replace d0 := bw_call d0 b2'
    by_cases hp : ps = ps'
    · rw [decide_eq_true hp]
      have HC : Hid (cs = cs') := hc
      have HP : Hid (ps = ps') := hp
      clear hc hp
      go_wp2_with fail
      go_ret
      exact ⟨ret_bool (by simp [HC.out, HP.out]), d0⟩
    · rw [decide_eq_false hp]
      have HP : Hid (¬ ps = ps') := hp
      clear hc hp
      go_wp2_with fail
      go_ret
      exact ⟨ret_bool (by rw [decide_eq_false HP.out, Bool.and_false]), d0⟩
  · rw [decide_eq_false hc]
    have HP : Hid (¬ cs = cs') := hc
    clear hc
    go_wp2_with fail
    go_ret
    exact ⟨ret_bool (by rw [decide_eq_false HP.out, Bool.false_and]), d0⟩

set_option maxHeartbeats 800000 in
theorem heldMemo_any (v1 v2 : Value) (n m : Nat) (k : Int) (w : World) (hk : 0 ≤ k) (hk2 : k ≤ 1048576) (hn : n ≤ 1048576) (hm : m ≤ 1048576) (r : RM w.heap.size w v1 v2 (marksI k n) (marksP (k + n) m)) :
    Calls Tryz.prog 23 #[.agg #[v1, v2], .int .i64 k] w fun e w' => e = .returned (.int .i64 (k + n + 2 * m)) ∧ Below w.heap.size w w' := by
  obtain ⟨W0, hW0, k0, d0, z0⟩ := box1 w #[v1, v2] 31
  have r0 := (r.below d0).mono d0.size
  have HW0 : Hid (W0 = _) := hW0
  clear hW0 r
  go_enter Tryz.func23, Tryz.ntmps23
  go_wp2_with fail
  rw [← HW0.out]
  clear HW0
  refine (heldI_any v1 n k _ hk (by omega) r0.t).mono ?_
  rintro e w1 ⟨rfl, b⟩
  replace k0 := (b.block _ (by omega)).trans k0
  replace d0 := bw_call d0 b
  replace r0 := (r0.below b).mono b.size
  have p1 := at_cell k0 1
  have h1 : 0 ≤ k + (n : Int) := by omega
  go_wp2_with fail
  refine (heldP_any v2 m (k + n) _ h1 (by omega) hm r0.r).mono ?_
  rintro e w2 ⟨rfl, b'⟩
  replace d0 := bw_call d0 b'
  have h2 : 0 ≤ k + (n : Int) + 2 * (m : Int) := by omega
  go_wp2_with fail
  go_ret
  exact ⟨rfl, d0⟩
end Go.Proofs.YtibhepekmihagaaGreatDoor

namespace Go.Proofs.YtibhepekmihagaaGreatDoor
open Go.RowKit

set_option linter.unusedVariables false

set_option maxRecDepth 100000

set_option linter.unusedSimpArgs false


theorem onlyUp {w w' : World} {c : Nat} (u : Upto c w w') : Only (fun k => k = c) w w' := ⟨u.os, u.tape, u.output, u.size, fun k hk hn => u.block k hk hn⟩

/-- What NewHouse comes to: the number of pages that is told, the rest, and whether it is right. -/
def newH (n : Int) : Int × Rp × Bool := (if (replay n []).2 = true then n else 0, (replay n []).1, (replay n []).2)

theorem newH_bs (n : Int) : (newH n).2.1.s.bs = [] := by
  show (replay n []).1.s.bs = []
  unfold replay
  split <;> rfl

theorem newH_no {n : Int} (h : (newH n).2.2 = false) : (newH n).1 = 0 ∧ (newH n).2.1 = Rp.zero := by
  have h' : (replay n []).2 = false := h
  refine ⟨by show (if (replay n []).2 = true then n else 0) = 0; rw [h']; rfl, ?_⟩
  show (replay n []).1 = Rp.zero
  unfold replay at h' ⊢
  split
  · rename_i q; rw [if_pos q] at h'; cases h'
  · rfl

theorem newH_yes {n : Int} (h : (newH n).2.2 = true) : (newH n).1 = n := by
  have h' : (replay n []).2 = true := h
  show (if (replay n []).2 = true then n else 0) = n
  rw [if_pos h']

theorem newH_len (n : Int) : (newH n).2.1.s.cs.length ≤ 24 ∧ (newH n).2.1.s.ps.length ≤ 24 ∧ (newH n).2.1.ts.length ≤ 4 ∧ (newH n).2.1.rs.length ≤ 4 := by
  show (replay n []).1.s.cs.length ≤ 24 ∧ (replay n []).1.s.ps.length ≤ 24 ∧ (replay n []).1.ts.length ≤ 4 ∧ (replay n []).1.rs.length ≤ 4
  unfold replay
  split
  · have := newPool_len n
    exact ⟨this.1, this.2, Nat.le_refl _, Nat.le_refl _⟩
  · exact ⟨Nat.zero_le _, Nat.zero_le _, Nat.zero_le _, Nat.zero_le _⟩

/-- A house with nothing done, in memory of its own. -/
structure OwnH0 (base : Nat) (W : World) (st : Rp) (lo : Option Addr) (lc : Nat) (o1 : Option Addr) (c1 : Nat) (o2 : Option Addr) (c2 : Nat) (o3 : Option Addr) (c3 : Nat) (o4 : Option Addr) (c4 : Nat) (o5 : Option Addr) (c5 : Nat) : Prop where
  log : W.ownsRow base 91 9 (.slice lo 0 lc) 0 []
  sh : OwnS base W (.slice o1 st.s.cs.length c1) (.slice o2 st.s.ps.length c2) (.slice o3 0 c3) st.s.cs st.s.ps []
  mm : OwnM base W (.slice o4 st.ts.length c4) (.slice o5 st.rs.length c5) st.ts st.rs

theorem OwnH0.below {base : Nat} {W W' : World} {st : Rp} {lo : Option Addr} {lc : Nat} {o1 : Option Addr} {c1 : Nat} {o2 : Option Addr} {c2 : Nat} {o3 : Option Addr} {c3 : Nat} {o4 : Option Addr} {c4 : Nat} {o5 : Option Addr} {c5 : Nat} (h : OwnH0 base W st lo lc o1 c1 o2 c2 o3 c3 o4 c4 o5 c5) (d : Below W.heap.size W W') : OwnH0 base W' st lo lc o1 c1 o2 c2 o3 c3 o4 c4 o5 c5 := ⟨owns_below h.log d, h.sh.below d, h.mm.below d⟩

theorem OwnH0.mono {base base' : Nat} {W : World} {st : Rp} {lo : Option Addr} {lc : Nat} {o1 : Option Addr} {c1 : Nat} {o2 : Option Addr} {c2 : Nat} {o3 : Option Addr} {c3 : Nat} {o4 : Option Addr} {c4 : Nat} {o5 : Option Addr} {c5 : Nat} (h : OwnH0 base W st lo lc o1 c1 o2 c2 o3 c3 o4 c4 o5 c5) (d : base' ≤ base) : OwnH0 base' W st lo lc o1 c1 o2 c2 o3 c3 o4 c4 o5 c5 := ⟨owns_mono h.log d, h.sh.mono d, h.mm.mono d⟩

theorem OwnH0.box {base c : Nat} {W W' : World} {st : Rp} {lo : Option Addr} {lc : Nat} {o1 : Option Addr} {c1 : Nat} {o2 : Option Addr} {c2 : Nat} {o3 : Option Addr} {c3 : Nat} {o4 : Option Addr} {c4 : Nat} {o5 : Option Addr} {c5 : Nat} {zs : Array Value} (h : OwnH0 base W st lo lc o1 c1 o2 c2 o3 c3 o4 c4 o5 c5) (k : W.heap[c]? = some (.cells zs 33 (0, 0))) (u : Upto c W W') : OwnH0 base W' st lo lc o1 c1 o2 c2 o3 c3 o4 c4 o5 c5 :=
  ⟨own_only (S := fun j => j = c) h.log (onlyUp u) (fun q hq e => own_not_box h.log k (by decide) (by rw [hq, e])), h.sh.box k u (by decide) (by decide) (by decide),
    ⟨own_only (S := fun j => j = c) h.mm.t (onlyUp u) (fun q hq e => own_not_box h.mm.t k (by decide) (by rw [hq, e])), own_only (S := fun j => j = c) h.mm.r (onlyUp u) (fun q hq e => own_not_box h.mm.r k (by decide) (by rw [hq, e]))⟩⟩

theorem OwnH0.upto {base c : Nat} {W W' : World} {st : Rp} {lo : Option Addr} {lc : Nat} {o1 : Option Addr} {c1 : Nat} {o2 : Option Addr} {c2 : Nat} {o3 : Option Addr} {c3 : Nat} {o4 : Option Addr} {c4 : Nat} {o5 : Option Addr} {c5 : Nat} (h : OwnH0 base W st lo lc o1 c1 o2 c2 o3 c3 o4 c4 o5 c5) (u : Upto c W W') (hc : c < base) : OwnH0 base W' st lo lc o1 c1 o2 c2 o3 c3 o4 c4 o5 c5 := ⟨ownsRow_upto h.log u hc, h.sh.upto u hc, h.mm.upto u hc⟩

theorem OwnH0.rng {lo' hi base : Nat} {W W' : World} {st : Rp} {lo : Option Addr} {lc : Nat} {o1 : Option Addr} {c1 : Nat} {o2 : Option Addr} {c2 : Nat} {o3 : Option Addr} {c3 : Nat} {o4 : Option Addr} {c4 : Nat} {o5 : Option Addr} {c5 : Nat} (h : OwnH0 base W st lo lc o1 c1 o2 c2 o3 c3 o4 c4 o5 c5) (k : Rng lo' hi W W') (hb : hi ≤ base) : OwnH0 base W' st lo lc o1 c1 o2 c2 o3 c3 o4 c4 o5 c5 := ⟨own_rng h.log k hb, h.sh.rng k hb, h.mm.rng k hb⟩

theorem OwnH0.zero (base : Nat) (W : World) : OwnH0 base W Rp.zero none 0 none 0 none 0 none 0 none 0 none 0 := ⟨owns_nil _ _ _ _, ⟨OwnP.nil _ _, ⟨owns_nil _ _ _ _, fun b hb => by cases hb⟩, List.Pairwise.nil⟩, OwnM.nil _ _⟩

theorem nine_setZ (x0 x1 x2 x3 x4 x5 x6 x7 x8 z0 z1 z2 z3 z4 z5 z6 z7 z8 : Value) : (((((((((#[x0, x1, x2, x3, x4, x5, x6, x7, x8].setIfInBounds 0 z0).setIfInBounds 1 z1).setIfInBounds 2 z2).setIfInBounds 3 z3).setIfInBounds 4 z4).setIfInBounds 5 z5).setIfInBounds 6 z6).setIfInBounds 7 z7).setIfInBounds 8 z8) = #[z0, z1, z2, z3, z4, z5, z6, z7, z8] := by
  apply Array.toList_inj.1
  simp only [Array.toList_setIfInBounds, List.set_cons_zero, List.set_cons_succ]

/-- A house's box is written whole. -/
theorem house_put {W V : World} {R : Nat} {x0 x1 x2 x3 x4 x5 x6 x7 x8 : Value} (kR : W.heap[R]? = some (.cells #[x0, x1, x2, x3, x4, x5, x6, x7, x8] 33 (0, 0))) (z0 z1 z2 z3 z4 z5 z6 z7 z8 : Value)
    (hV : V = (((((((((W.setCell ⟨R, 0, none⟩ z0).setCell ⟨R, 1, none⟩ z1).setCell ⟨R, 2, none⟩ z2).setCell ⟨R, 3, none⟩ z3).setCell ⟨R, 4, none⟩ z4).setCell ⟨R, 5, none⟩ z5).setCell ⟨R, 6, none⟩ z6).setCell ⟨R, 7, none⟩ z7).setCell ⟨R, 8, none⟩ z8)) :
    V.heap[R]? = some (.cells #[z0, z1, z2, z3, z4, z5, z6, z7, z8] 33 (0, 0)) ∧ Upto R W V := by
  subst hV
  have h := set_at (set_at (set_at (set_at (set_at (set_at (set_at (set_at (set_at kR 0 z0) 1 z1) 2 z2) 3 z3) 4 z4) 5 z5) 6 z6) 7 z7) 8 z8
  rw [nine_setZ] at h
  exact ⟨h, (((((((((Upto.refl R W).setCell ⟨R, 0, none⟩ (.inl rfl) z0).setCell ⟨R, 1, none⟩ (.inl rfl) z1).setCell ⟨R, 2, none⟩ (.inl rfl) z2).setCell ⟨R, 3, none⟩ (.inl rfl) z3).setCell ⟨R, 4, none⟩ (.inl rfl) z4).setCell ⟨R, 5, none⟩ (.inl rfl) z5).setCell ⟨R, 6, none⟩ (.inl rfl) z6).setCell ⟨R, 7, none⟩ (.inl rfl) z7).setCell ⟨R, 8, none⟩ (.inl rfl) z8⟩
end Go.Proofs.YtibhepekmihagaaGreatDoor

