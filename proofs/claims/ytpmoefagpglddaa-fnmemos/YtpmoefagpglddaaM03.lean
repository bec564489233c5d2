/-
  Contracts and plain laws, one chapter behind the other.
-/
import Derived.Deep.RegionLaw
import Derived.Orders
import Derived.WalkKit
import Derived.Deep.WholeRow
import Derived.Test.YtpmoefagpglddaaM01
import Derived.Test.YtpmoefagpglddaaM02
namespace Go.Proofs.Ytpmoefagpglddaa
open Go.RowKit

set_option linter.unusedVariables false

set_option maxRecDepth 100000


theorem specKnown_any (v1 v2 : Value) (ts : List Int) (rs : List (Int × Int)) (client tag : Int) (w : World) (r : RM w.heap.size w v1 v2 ts rs) :
    Calls Try.prog 16 #[.agg #[v1, v2], .int .i64 client, .int .i64 tag] w fun e w' => e = .returned (.int .i64 (knownM ts rs client tag)) ∧ Below w.heap.size w w' := by
  obtain ⟨o1, cap1, o2, cap2, rfl, rfl⟩ := r.forms
  obtain ⟨W0, hW0, k0, d0, z0⟩ := box1 w #[.slice o1 ts.length cap1, .slice o2 rs.length cap2] 27
  have HW0 : Hid (W0 = _) := hW0
  have r0 := (r.below d0).mono d0.size
  have s0 := heap_lt k0
  have HV : Hid (knownM ts rs client tag = if memOk ts rs = true then knownT ts client tag else -1) := rfl
  have HT : Hid (knownT ts client tag = if inB client 0 3 = true ∧ inB tag 1 1000 = true then knownIn ts client tag else -1) := rfl
  have HL : Hid (memOk ts rs = true → ts.length = 4) := fun h => (memOk_len h).1
  clear hW0 z0 r
  go_enter Try.func16, Try.ntmps16
  go_wp2_with fail
  rw [← HW0.out]
  clear HW0
  refine (specMemoOk_any _ _ ts rs _ r0).mono ?_
  rintro e w1 ⟨rfl, b1⟩
  replace k0 := (b1.block _ s0).trans k0
  replace d0 := bw_call d0 b1
  replace r0 := (r0.below b1).mono b1.size
  clear b1 s0
  generalize memOk ts rs = ok at *
  cases ok
  · go_wp2_with fail
    go_ret
    exact ⟨ret_int (by rw [HV.out]; rfl), d0⟩
  rw [if_pos rfl] at HV
  go_wp2_with fail
  refine (l1In_any client 0 3 _).mono ?_
  rintro e w2 ⟨rfl, rfl⟩
  have HI : Hid (inB client 0 3 = (decide (0 ≤ client) && decide (client ≤ 3))) := rfl
  rw [← HI.out]
  have HCB : Hid (inB client 0 3 = true → 0 ≤ client ∧ client ≤ 3) := fun h => (inB_iff _ _ _).1 h
  generalize inB client 0 3 = b0 at HT HCB ⊢
  clear HI
  cases b0
  · go_wp2_with fail
    go_ret
    exact ⟨ret_int (by rw [HV.out, HT.out]; rfl), d0⟩
  go_wp2_with fail
  refine (l1In_any tag 1 1000 _).mono ?_
  rintro e w2 ⟨rfl, rfl⟩
  have HI : Hid (inB tag 1 1000 = (decide (1 ≤ tag) && decide (tag ≤ 1000))) := rfl
  rw [← HI.out]
  generalize inB tag 1 1000 = b0 at HT ⊢
  clear HI
  cases b0
  · go_wp2_with fail
    go_ret
    exact ⟨ret_int (by rw [HV.out, HT.out]; rfl), d0⟩
  rw [if_pos (by simp)] at HT
  obtain ⟨hc0, hc3⟩ := HCB.out (by simp)
  obtain ⟨C, rfl⟩ := Int.eq_ofNat_of_zero_le hc0
  have hC : C < 4 := by omega
  have p0 := at_cell k0 0
  have p1 := at_cell k0 1
  clear HCB hc0 hc3
  go_wp2_with fail
  refine (specKnownIn_any _ _ ts rs C tag _ hC (HL.out (by simp)) r0).mono ?_
  rintro e w3 ⟨rfl, b3⟩
  replace d0 := bw_call d0 b3
  have hbd := knownIn_bd ts C tag
  generalize knownIn ts C tag = kk at *
  clear b3 r0 k0 p0 p1
  go_wp2_with fail
  go_ret
  exact ⟨ret_int (by rw [HV.out, HT.out]), d0⟩

theorem new_endM {w W0 : World} {M1 M2 : Array Value} {x y : Value} (k0 : W0.heap[w.heap.size]? = some (.cells #[x, y] 27 (0, 0))) (d0 : Below w.heap.size w W0) (z0 : W0.heap.size = w.heap.size + 1)
    (hown1 : ∀ (W : World) (base : Nat), base ≤ W.heap.size → (W.alloc (.cells M1 2)).ownsRow base 2 1 (.slice (some ⟨W.heap.size, 0, none⟩) 4 4) 4 ([0, 0, 0, 0].map (Value.int .i64)))
    (hown2 : ∀ (W : World) (base : Nat), base ≤ W.heap.size → (W.alloc (.cells M2 29)).ownsRow base 29 2 (.slice (some ⟨W.heap.size, 0, none⟩) 4 4) 4 (([(0, 0), (0, 0), (0, 0), (0, 0)] : List (Int × Int)).flatMap repC))
    (a b : Nat) (oa ob : Obj) (hab : (a = w.heap.size + 1 ∧ b = w.heap.size + 1 + 1 ∧ oa = .cells M1 2 ∧ ob = .cells M2 29) ∨ (a = w.heap.size + 1 + 1 ∧ b = w.heap.size + 1 ∧ oa = .cells M2 29 ∧ ob = .cells M1 2)) :
    (((((W0.setCell ⟨w.heap.size, 0, none⟩ (.slice (some ⟨a, 0, none⟩) 4 4)).setCell ⟨w.heap.size, 1, none⟩ (.slice (some ⟨b, 0, none⟩) 4 4)).alloc oa).alloc ob).drew).heap[w.heap.size]? = some (.cells #[.slice (some ⟨a, 0, none⟩) 4 4, .slice (some ⟨b, 0, none⟩) 4 4] 27 (0, 0)) ∧
    OwnM w.heap.size (((((W0.setCell ⟨w.heap.size, 0, none⟩ (.slice (some ⟨a, 0, none⟩) 4 4)).setCell ⟨w.heap.size, 1, none⟩ (.slice (some ⟨b, 0, none⟩) 4 4)).alloc oa).alloc ob).drew) (.slice (some ⟨a, 0, none⟩) 4 4) (.slice (some ⟨b, 0, none⟩) 4 4) [0, 0, 0, 0] [(0, 0), (0, 0), (0, 0), (0, 0)] ∧
    Below w.heap.size w (((((W0.setCell ⟨w.heap.size, 0, none⟩ (.slice (some ⟨a, 0, none⟩) 4 4)).setCell ⟨w.heap.size, 1, none⟩ (.slice (some ⟨b, 0, none⟩) 4 4)).alloc oa).alloc ob).drew) := by
  obtain ⟨h1, h2⟩ := set_two k0 (.slice (some ⟨a, 0, none⟩) 4 4) (.slice (some ⟨b, 0, none⟩) 4 4)
  generalize hW : (W0.setCell ⟨w.heap.size, 0, none⟩ (.slice (some ⟨a, 0, none⟩) 4 4)).setCell ⟨w.heap.size, 1, none⟩ (.slice (some ⟨b, 0, none⟩) 4 4) = W1 at h1 h2 ⊢
  have s1 : W1.heap.size = w.heap.size + 1 := by rw [← hW, World.size_setCell, World.size_setCell, z0]
  clear hW
  have s2 : (W1.alloc oa).heap.size = w.heap.size + 1 + 1 := by simp [s1]
  have e1 := (Below.heap_alloc (W1.alloc oa) ob w.heap.size (by omega)).trans ((Below.heap_alloc W1 oa w.heap.size (by omega)).trans h1)
  refine ⟨e1, ?_, bw_drew (bw_alloc (bw_alloc (d0.trans (h2.toBelow (by omega) (Nat.le_refl _)))))⟩
  rcases hab with ⟨rfl, rfl, rfl, rfl⟩ | ⟨rfl, rfl, rfl, rfl⟩
  · have o1 := hown1 W1 w.heap.size (by omega)
    have o2 := hown2 (W1.alloc (.cells M1 2)) w.heap.size (by omega)
    rw [s1] at o1
    rw [s2] at o2
    exact ⟨o1.alloc _, o2⟩
  · have o1 := hown2 W1 w.heap.size (by omega)
    have o2 := hown1 (W1.alloc (.cells M2 29)) w.heap.size (by omega)
    rw [s1] at o1
    rw [s2] at o2
    exact ⟨o2, o1.alloc _⟩

theorem specNewMemo_any (w : World) :
    Calls Try.prog 22 #[] w fun e w' => ∃ u1 u2 : Value, e = .returned (.agg #[u1, u2]) ∧ OwnM w.heap.size w' u1 u2 [0, 0, 0, 0] [(0, 0), (0, 0), (0, 0), (0, 0)] ∧ Below w.heap.size w w' := by
  obtain ⟨W0, hW0, k0, d0, z0⟩ := box1 w #[.slice none 0 0, .slice none 0 0] 27
  have HW0 : Hid (W0 = _) := hW0
  have p0 := at_cell k0 0
  have p1 := at_cell k0 1
  have f0 := at_open k0 0
  have f1 := at_open k0 1
  obtain ⟨M1, -, hmk1, hown1⟩ := made_ints 4 (by omega)
  obtain ⟨M2, hmk2, hown2⟩ := made_reps 4 (by omega)
  have hmk1' : ∀ W : World, (Instr.makeSlice 24 (.int .i64 4) (.int .i64 4)).run Try.prog W = .ok (.slice (some ⟨W.heap.size, 0, none⟩) 4 4) (W.alloc (.cells M1 2)) := hmk1
  have hmk2' : ∀ W : World, (Instr.makeSlice 25 (.int .i64 4) (.int .i64 4)).run Try.prog W = .ok (.slice (some ⟨W.heap.size, 0, none⟩) 4 4) (W.alloc (.cells M2 29)) := hmk2
  clear hmk1 hmk2 hW0
  go_enter Try.func22, Try.ntmps22
  go_wp2_with fail
  rw [← HW0.out]
  go_region
  · have HS : Hid _ := new_endM k0 d0 z0 hown1 hown2 (w.heap.size + 1) (w.heap.size + 1 + 1) _ _ (.inl ⟨rfl, rfl, rfl, rfl⟩)
    clear k0 d0 hown1 hown2 hmk1' hmk2' HW0
    go_wp2_with fail
    exact bodyPost_ret (v := .agg #[.slice (some ⟨w.heap.size + 1, 0, none⟩) 4 4, .slice (some ⟨w.heap.size + 1 + 1, 0, none⟩) 4 4]) (by simp [results, Try.results22, go_sem, at_cell HS.out.1]) rfl ⟨_, _, rfl, HS.out.2⟩
  · have HS : Hid _ := new_endM k0 d0 z0 hown1 hown2 (w.heap.size + 1 + 1) (w.heap.size + 1) _ _ (.inr ⟨rfl, rfl, rfl, rfl⟩)
    clear k0 d0 hown1 hown2 hmk1' hmk2' HW0
    go_wp2_with fail
    exact bodyPost_ret (v := .agg #[.slice (some ⟨w.heap.size + 1 + 1, 0, none⟩) 4 4, .slice (some ⟨w.heap.size + 1, 0, none⟩) 4 4]) (by simp [results, Try.results22, go_sem, at_cell HS.out.1]) rfl ⟨_, _, rfl, HS.out.2⟩
end Go.Proofs.Ytpmoefagpglddaa

namespace Go.Proofs.Ytpmoefagpglddaa
open Go.RowKit

set_option linter.unusedVariables false

set_option maxRecDepth 100000


theorem step_append {P : Program} {w : World} {ops : Array Oper} {o : Oper} {a : Act} {K : Act → World → Prop} {Q : Exit → Act → World → Prop} {E : Prop} (hgd : o.guard = none) (s x : Operand) (t : TypeId)
    (ho : o.op = .call { callee := .builtin .append, args := #[s, x], argTypes := #[t, t] })
    (base : Nat) (e : TypeId) (i : TypeInfo) (z : Value) (size bytes : Nat) (ht : P.underlying t = some (.slice e)) (hi : P.info? e = some i) (hz : i.zero = some z)
    (hsize : i.size = size) (hby : i.bytes = bytes) (hzs : z.cells.size = size) (hsz : 0 < size)
    (v : Value) (n : Nat) (xs : List Value) (hs : a.eval s = v) (hown : w.ownsRow base e size v n xs)
    (ad : Addr) (m c : Nat) (news : List Value) (hx : a.eval x = .slice (some ad) m c) (hl : news.length = m * size) (hnews : ∀ j u, news[j]? = some u → w.cell? (ad.add j) = some u) (h1 : ∀ u ∈ news, u.oneCell' = true)
    (h63 : n + m ≤ maxLen) (hbytes : (n + m) * bytes ≤ 140737488355328) (hbase : base ≤ w.heap.size)
    (h : ∀ v' w', w'.ownsRow base e size v' (n + m) (xs ++ news) → w.grownBy w' v.ownBlock → (v' = .slice none 0 0 ↔ v = .slice none 0 0 ∧ m = 0) → K (a.put o.dst v') w') :
    if Region.wanted o (yielded ops a.tmps) = true then Oper.wp P o a w K Q else E := by
  have hw : Region.wanted o (yielded ops a.tmps) = true := by simp [Region.wanted, hgd]
  rw [if_pos hw]
  exact wp_append_own w s x t ho base e i z size bytes ht hi hz hsize hby hzs hsz v n xs hs hown ad m c news hx hl hnews h1 h63 hbytes hbase h
end Go.Proofs.Ytpmoefagpglddaa

namespace Go.Proofs.Ytpmoefagpglddaa
open Go.RowKit

set_option linter.unusedVariables false

set_option maxRecDepth 100000


theorem flat_srcM {α : Type} {k : Nat} {cs : α → List Value} (hk : ∀ x, (cs x).length = k) (hk0 : 0 < k) {B : Nat} {w : World} {g off n cap : Nat} {xs : List α} (h : ReadsR k cs B w (.slice (some ⟨g, off, none⟩) n cap) xs) : ∀ j u, (xs.flatMap cs)[j]? = some u → w.cell? ((⟨g, off, none⟩ : Addr).add j) = some u := fun j u hj => by
  obtain ⟨o', cap', e, -, hc, -⟩ := h
  simp only [Value.slice.injEq] at e
  obtain ⟨rfl, rfl, rfl⟩ := e
  have hjl := (List.getElem?_eq_some_iff.1 hj).1
  rw [flat_length hk] at hjl
  have hi3 : j / k < xs.length := Nat.div_lt_of_lt_mul (by rw [Nat.mul_comm]; exact hjl)
  obtain ⟨g', off', e, hg, hx⟩ := hc (j / k) xs[j / k] (List.getElem?_eq_getElem hi3)
  simp only [Option.some.injEq, Addr.mk.injEq, and_true] at e
  obtain ⟨rfl, rfl⟩ := e
  have hr : j % k < k := Nat.mod_lt _ hk0
  have he : j / k * k + j % k = j := by rw [Nat.mul_comm]; exact Nat.div_add_mod j k
  have h1 := flat_get hk xs (j / k) (j % k) xs[j / k] (List.getElem?_eq_getElem hi3) hr
  rw [he, hj] at h1
  have h2 := hx (j % k) u h1.symm
  have ea : (⟨g, off, none⟩ : Addr).add j = ⟨g, off + j, none⟩ := by unfold Addr.add; split <;> simp_all
  rw [ea]
  rw [Nat.add_assoc, he] at h2
  exact h2

theorem reps_one (rs : List (Int × Int)) : ∀ u ∈ rs.flatMap repC, u.oneCell' = true := fun u hu => by
  obtain ⟨x, _, hx⟩ := List.mem_flatMap.1 hu
  simp [repC] at hx
  rcases hx with rfl | rfl <;> rfl

/-- A row of one's own stays where a box of another type is written. -/
theorem own_box_upto {w w' : World} {base b : Nat} {e : TypeId} {size : Nat} {v : Value} {n : Nat} {xs : List Value} {cs : Array Value} {t : TypeId} (h : w.ownsRow base e size v n xs) (k : w.heap[b]? = some (.cells cs t (0, 0))) (ht : t ≠ e) (u : Upto b w w') : w'.ownsRow base e size v n xs :=
  own_rng_not h fun g hg hv => u.block g hg fun e => own_not_box h k ht (by rw [hv, e])

theorem OwnM.box {base b : Nat} {w w' : World} {v1 v2 : Value} {ts : List Int} {rs : List (Int × Int)} {cs : Array Value} (h : OwnM base w v1 v2 ts rs) (k : w.heap[b]? = some (.cells cs 27 (0, 0))) (u : Upto b w w') : OwnM base w' v1 v2 ts rs := ⟨own_box_upto h.t k (by decide) u, own_box_upto h.r k (by decide) u⟩

/-- The answer's box is written. -/
theorem mem_end (w W : World) (u1 u2 x y : Value) (b : Nat) (ts : List Int) (rs : List (Int × Int)) (hb : w.heap.size ≤ b) (k : W.heap[b]? = some (.cells #[x, y] 27 (0, 0))) (own : OwnM w.heap.size W u1 u2 ts rs) (d : Below w.heap.size w W) :
    ((W.setCell ⟨b, 0, none⟩ u1).setCell ⟨b, 1, none⟩ u2).heap[b]? = some (.cells #[u1, u2] 27 (0, 0)) ∧ OwnM w.heap.size ((W.setCell ⟨b, 0, none⟩ u1).setCell ⟨b, 1, none⟩ u2) u1 u2 ts rs ∧ Below w.heap.size w ((W.setCell ⟨b, 0, none⟩ u1).setCell ⟨b, 1, none⟩ u2) := by
  obtain ⟨h1, h2⟩ := set_two k u1 u2
  exact ⟨h1, own.box k h2, d.trans (h2.toBelow d.size (by omega))⟩

set_option maxHeartbeats 1600000 in
theorem l12Copy_any (v1 v2 : Value) (ts : List Int) (rs : List (Int × Int)) (w : World) (h1 : ts.length = 4) (h2 : rs.length = 4) (r : RM w.heap.size w v1 v2 ts rs) :
    Calls Try.prog 36 #[.agg #[v1, v2]] w fun e w' => ∃ u1 u2 : Value, e = .returned (.agg #[u1, u2]) ∧ OwnM w.heap.size w' u1 u2 ts rs ∧ Below w.heap.size w w' := by
  obtain ⟨j0, ji, jz0, jz1, jz2⟩ := info_parts Try.infoRep
  obtain ⟨o1, cap1, o2, cap2, rfl, rfl⟩ := r.forms
  obtain ⟨g2, of2, rfl⟩ : ∃ g2 of2, o2 = some ⟨g2, of2, none⟩ := by
    obtain ⟨o', cap', e, -, hc, -⟩ := r.r
    simp only [Value.slice.injEq] at e
    obtain ⟨rfl, -, -⟩ := e
    obtain ⟨g, off, e, -⟩ := hc 0 _ (List.getElem?_eq_getElem (by omega))
    exact ⟨g, off, e⟩
  obtain ⟨W0, hW0, k0, k1, d0, z0⟩ := box2 w #[.slice o1 ts.length cap1, .slice (some ⟨g2, of2, none⟩) rs.length cap2] #[.slice none 0 0, .slice none 0 0] 27 27
  have HW0 : Hid (W0 = _) := hW0
  have r0 := (r.below d0).mono d0.size
  have RT : ∀ W', Below W0.heap.size W0 W' → Reads W'.heap.size W' (.slice o1 ts.length cap1) (ts.map (Value.int .i64)) := fun W' b => (r0.t.below b).mono b.size
  have RR : ∀ W', Below W0.heap.size W0 W' → ∀ j u, (rs.flatMap repC)[j]? = some u → W'.cell? ((⟨g2, of2, none⟩ : Addr).add j) = some u := fun W' b => flat_srcM repC_len (by decide) (r0.r.below b)
  have HLEN : Hid ((rs.flatMap repC).length = rs.length * 2) := flat_length repC_len rs
  have HMX : Hid (0 + rs.length ≤ maxLen) := by rw [Hid, h2]; unfold maxLen; omega
  have HBY : Hid ((0 + rs.length) * 16 ≤ 140737488355328) := by rw [Hid, h2]; omega
  have hts : ts.length ≤ 1048576 := by omega
  have HON : ∀ W : World, (W.alloc (.cells #[] 29)).ownsRow W.heap.size 29 2 (.slice (some ⟨W.heap.size, 0, none⟩) 0 0) 0 [] := fun W => World.ownsRow_lit W #[] 0 (Nat.le_refl _) (Nat.zero_le _) rfl
  have HKeep : ∀ W', Upto (w.heap.size + 1) W0 W' → (W'.cell? ⟨w.heap.size, 0, none⟩ = some (.slice o1 ts.length cap1) ∧ W'.cell? ⟨w.heap.size, 1, none⟩ = some (.slice (some ⟨g2, of2, none⟩) rs.length cap2)) := fun W' b =>
    ⟨(b.cell (p := ⟨w.heap.size, 0, none⟩) (heap_lt k0) (by simp)).trans (at_cell k0 0), (b.cell (p := ⟨w.heap.size, 1, none⟩) (heap_lt k0) (by simp)).trans (at_cell k0 1)⟩
  have hK1 := k1
  have s1 := heap_lt k1
  clear hW0 r r0 h1 h2
  go_enter Try.func36, Try.ntmps36
  go_upto_region 1 with fail
  rw [← HW0.out]
  clear HW0
  go_region_held3 (fun w' => w'.cell? ⟨w.heap.size, 0, none⟩ = some (.slice o1 ts.length cap1) ∧ w'.cell? ⟨w.heap.size, 1, none⟩ = some (.slice (some ⟨g2, of2, none⟩) rs.length cap2))
    ((refine HKeep _ ?_; repeat (first | exact U6 | exact U5 | exact Upto.refl _ _ | (apply Upto.setCell; rotate_left; exact Or.inl rfl) | refine Upto.drew ?_ | refine Upto.alloc ?_ _)))
    ((first
      | (go_simp; go_at_call 60; first
          | (refine (l1Copy_any _ ts _ hts (RT W0.drew (bw_drew (Below.refl _ _)))).mono ?_; rintro e w5 ⟨v5, rfl, own5, hn5, b5⟩; obtain ⟨o5, c5, rfl⟩ := own_slice own5; have B5 : Below W0.heap.size W0 w5 := bw_call (bw_drew (Below.refl _ _)) b5; have U5 : Upto (w.heap.size + 1) W0 w5 := Upto.ofBelow B5; dsimp only)
          | (refine (l1Copy_any _ ts _ hts (RT (W0.drew.alloc (.cells #[] 29)) (bw_alloc (bw_drew (Below.refl _ _))))).mono ?_; rintro e w5 ⟨v5, rfl, own5, hn5, b5⟩; obtain ⟨o5, c5, rfl⟩ := own_slice own5; have B5 : Below W0.heap.size W0 w5 := bw_call (bw_alloc (bw_drew (Below.refl _ _))) b5; have U5 : Upto (w.heap.size + 1) W0 w5 := Upto.ofBelow B5; dsimp only))
      | (refine step_append rfl (.tmp 6) (.tmp 8) 25 rfl W0.heap.size 29 j0 (.agg #[.int .i64 0, .int .i64 0]) 2 16 Try.underlying25 ji jz0 jz1 jz2 rfl (by decide) (.slice (some ⟨W0.heap.size, 0, none⟩) 0 0) 0 [] (by simp [Act.eval]) (owns_below (HON W0.drew) b5) ⟨g2, of2, none⟩ rs.length cap2 (rs.flatMap repC) (by simp [Act.eval]) HLEN.out (RR w5 B5) (reps_one rs) HMX.out HBY.out B5.size ?_; intro v6 w6 hown6 hgrow6 hnil6; obtain ⟨o6, c6, rfl⟩ := own_slice hown6; have B6 : Below W0.heap.size W0 w6 := Below.grown B5 hgrow6 B5.size (fun q hq => by simp [Value.ownBlock] at hq; omega); have U6 : Upto (w.heap.size + 1) W0 w6 := Upto.ofBelow B6; have k6 := (B6.block _ s1).trans hK1; have q0 := at_cell k6 0; have q1 := at_cell k6 1; have f0 := at_open k6 0; have f1 := at_open k6 1)
      | (refine step_append rfl (.tmp 6) (.tmp 8) 25 rfl w5.heap.size 29 j0 (.agg #[.int .i64 0, .int .i64 0]) 2 16 Try.underlying25 ji jz0 jz1 jz2 rfl (by decide) (.slice (some ⟨w5.heap.size, 0, none⟩) 0 0) 0 [] (by simp [Act.eval]) (HON w5) ⟨g2, of2, none⟩ rs.length cap2 (rs.flatMap repC) (by simp [Act.eval]) HLEN.out (RR (w5.alloc (.cells #[] 29)) (bw_alloc B5)) (reps_one rs) HMX.out HBY.out (by simp) ?_; intro v6 w6 hown6 hgrow6 hnil6; obtain ⟨o6, c6, rfl⟩ := own_slice hown6; have B6 : Below W0.heap.size W0 w6 := Below.grown (bw_alloc B5) hgrow6 (by simp; have := B5.size; omega) (fun q hq => by simp [Value.ownBlock] at hq; have := B5.size; omega); have U6 : Upto (w.heap.size + 1) W0 w6 := Upto.ofBelow B6; have k6 := (B6.block _ s1).trans hK1; have q0 := at_cell k6 0; have q1 := at_cell k6 1; have f0 := at_open k6 0; have f1 := at_open k6 1)))
  · have own5w := own5.alloc (.cells #[] 29)
    have own56 := owns_mono (own_rng_not own5w (fun g hg hv => hgrow6.block g hg (rows_two own5w (HON w5) (by decide) g hv).symm)) (show w.heap.size ≤ _ from d0.size)
    have own66 : w6.ownsRow w.heap.size 29 2 (.slice o6 rs.length c6) rs.length (rs.flatMap repC) := owns_mono (by simpa using hown6) (Nat.le_trans d0.size B5.size)
    have HS : Hid _ := mem_end w w6 _ _ _ _ (w.heap.size + 1) ts rs (by omega) k6 ⟨own56, own66⟩ (bw_call d0 B6)
    clear own5w own56 own66 own5 hown6 hgrow6 hnil6 B5 B6 U5 U6 b5 k6 q0 q1 f0 f1 HKeep HON RR RT k0 k1 hK1 hn5
    go_wp2_with fail
    exact bodyPost_ret (v := .agg #[.slice o5 ts.length c5, .slice o6 rs.length c6]) (by simp [results, Try.results36, go_sem, at_cell HS.out.1]) rfl ⟨_, _, rfl, HS.out.2⟩
  · have own56 := owns_mono (own_rng_not own5 (fun g hg hv => hgrow6.block g hg (rows_two own5 (owns_below (HON W0.drew) b5) (by decide) g hv).symm)) (show w.heap.size ≤ _ from Nat.le_trans d0.size (by simp))
    have own66 : w6.ownsRow w.heap.size 29 2 (.slice o6 rs.length c6) rs.length (rs.flatMap repC) := owns_mono (by simpa using hown6) d0.size
    have HS : Hid _ := mem_end w w6 _ _ _ _ (w.heap.size + 1) ts rs (by omega) k6 ⟨own56, own66⟩ (bw_call d0 B6)
    clear own56 own66 own5 hown6 hgrow6 hnil6 B5 B6 U5 U6 b5 k6 q0 q1 f0 f1 HKeep HON RR RT k0 k1 hK1 hn5
    go_wp2_with fail
    exact bodyPost_ret (v := .agg #[.slice o5 ts.length c5, .slice o6 rs.length c6]) (by simp [results, Try.results36, go_sem, at_cell HS.out.1]) rfl ⟨_, _, rfl, HS.out.2⟩
end Go.Proofs.Ytpmoefagpglddaa

namespace Go.Proofs.Ytpmoefagpglddaa
open Go.RowKit

set_option linter.unusedVariables false

set_option maxRecDepth 100000


set_option maxHeartbeats 3200000 in
theorem specNoted_any (v1 v2 : Value) (ts : List Int) (rs : List (Int × Int)) (client tag c v : Int) (w : World) (r : RM w.heap.size w v1 v2 ts rs) :
    Calls Try.prog 14 #[.agg #[v1, v2], .int .i64 client, .int .i64 tag, .agg #[.int .i64 c, .int .i64 v]] w fun e w' => ∃ u1 u2 : Value, e = .returned (.tuple #[.agg #[u1, u2], .bool (notedM ts rs client tag (c, v)).2]) ∧ OwnM w.heap.size w' u1 u2 (notedM ts rs client tag (c, v)).1.1 (notedM ts rs client tag (c, v)).1.2 ∧ Below w.heap.size w w' := by
  obtain ⟨o1, cap1, o2, cap2, rfl, rfl⟩ := r.forms
  obtain ⟨W0, hW0, k0, k1, k2, d0, z0⟩ := box3 w #[.slice o1 ts.length cap1, .slice o2 rs.length cap2] #[.int .i64 c, .int .i64 v] #[.slice none 0 0, .slice none 0 0] 27 29 27
  have HW0 : Hid (W0 = _) := hW0
  have r0 := (r.below d0).mono d0.size
  clear hW0 r z0
  cases hok : memOk ts rs
  · have hv : notedM ts rs client tag (c, v) = (([], []), false) := by rw [notedM, hok]; rfl
    rw [hv]
    clear hv
    go_enter Try.func14, Try.ntmps14
    go_upto_region 1 with fail
    rw [← HW0.out]
    clear HW0
    have p0 := at_cell k0 0
    have p1 := at_cell k0 1
    go_wp2_with fail
    refine (specMemoOk_any _ _ ts rs _ r0).mono ?_
    rw [hok]
    rintro e w1 ⟨rfl, b1⟩
    have k21 := (b1.block _ (heap_lt k2)).trans k2
    have HS : Hid _ := mem_end w w1 (.slice none 0 0) (.slice none 0 0) _ _ (w.heap.size + 1 + 1) [] [] (by omega) k21 (OwnM.nil _ _) (bw_call d0 b1)
    have q0 := at_cell k21 0
    have q1 := at_cell k21 1
    have f0 := at_open k21 0
    have f1 := at_open k21 1
    clear k0 k1 k2 k21 r0 d0 b1 p0 p1 hok
    go_wp2_with fail
    exact bodyPost_ret (v := .tuple #[.agg #[.slice none 0 0, .slice none 0 0], .bool false]) (by simp [results, Try.results14, go_sem, at_cell HS.out.1]) rfl ⟨_, _, rfl, HS.out.2⟩
  obtain ⟨hl1, hl2⟩ := memOk_len hok
  have HOK : Hid (memOk ts rs = true) := hok
  have HV : Hid (notedM ts rs client tag (c, v) = if knownT ts client tag = 0 ∧ repOk c v = true then ((ts.set client.toNat tag, rs.set client.toNat (c, v)), true) else ((ts, rs), false)) := by rw [Hid, notedM, hok]; rfl
  have HKM : Hid (knownM ts rs client tag = knownT ts client tag) := by rw [Hid, knownM, hok]; rfl
  have HL1 : Hid (ts.length = 4) := hl1
  have HL2 : Hid (rs.length = 4) := hl2
  clear hl1 hl2
  go_enter Try.func14, Try.ntmps14
  go_upto_region 1 with fail
  rw [← HW0.out]
  clear HW0
  have p0 := at_cell k0 0
  have p1 := at_cell k0 1
  go_wp2_with fail
  refine (specMemoOk_any _ _ ts rs _ r0).mono ?_
  rw [hok]
  rintro e w1 ⟨rfl, b1⟩
  replace k0 := (b1.block _ (heap_lt k0)).trans k0
  replace k1 := (b1.block _ (heap_lt k1)).trans k1
  replace k2 := (b1.block _ (heap_lt k2)).trans k2
  replace d0 := bw_call d0 b1
  replace r0 := (r0.below b1).mono b1.size
  clear b1 p0 p1 hok
  have p0 := at_cell k0 0
  have p1 := at_cell k0 1
  go_wp2_with fail
  refine (l12Copy_any _ _ ts rs _ HL1.out HL2.out r0).mono ?_
  rintro e w2 ⟨u1, u2, rfl, own, b2⟩
  have hs2 := heap_lt k2
  obtain ⟨o3, c3, rfl⟩ := own_slice own.t
  obtain ⟨o4, c4, rfl⟩ := own_slice own.r
  obtain ⟨W3, hW3, k3, b3, z3⟩ := box1 w2 #[.slice o3 ts.length c3, .slice o4 rs.length c4] 27
  have HW3 : Hid (W3 = _) := hW3
  replace k0 := (b3.block _ (heap_lt ((b2.block _ (heap_lt k0)).trans k0))).trans ((b2.block _ (heap_lt k0)).trans k0)
  replace k1 := (b3.block _ (heap_lt ((b2.block _ (heap_lt k1)).trans k1))).trans ((b2.block _ (heap_lt k1)).trans k1)
  replace k2 := (b3.block _ (heap_lt ((b2.block _ (heap_lt k2)).trans k2))).trans ((b2.block _ (heap_lt k2)).trans k2)
  have hds : w.heap.size ≤ w1.heap.size := d0.size
  have hB : w.heap.size + 1 + 1 < w1.heap.size := hs2
  have hk3 : w.heap.size ≤ w2.heap.size := Nat.le_trans hds b2.size
  replace d0 := bw_call (bw_call d0 b2) b3
  replace r0 := (((r0.below b2).mono b2.size).below b3).mono b3.size
  replace own := own.below b3
  clear b2 b3 p0 p1 hW3 z3 hs2
  go_upto_region 4 with fail
  rw [← HW3.out]
  clear HW3
  generalize w2.heap.size = nB at *
  generalize w1.heap.size = B at *
  clear w2 w1
  have p0 := at_cell k0 0
  have p1 := at_cell k0 1
  go_wp2_with fail
  refine (specKnown_any _ _ ts rs client tag _ r0).mono ?_
  rintro e w4 ⟨rfl, b4⟩
  rw [HKM.out]
  have hbd := knownT_bd ts client tag
  replace k1 := (b4.block _ (heap_lt k1)).trans k1
  replace k2 := (b4.block _ (heap_lt k2)).trans k2
  replace k3 := (b4.block _ (heap_lt k3)).trans k3
  replace d0 := bw_call d0 b4
  replace own := own.below b4
  clear b4 p0 p1 k0 r0 HKM W3
  by_cases hk : knownT ts client tag = 0
  · obtain ⟨⟨hc0, hc3⟩, ⟨ht1, ht2⟩, -⟩ := knownT_new hk
    rw [hk]
    rw [hk] at HV
    have e0 := at_cell k1 0
    have e1 := at_cell k1 1
    clear hbd hk
    go_wp2_with fail
    refine (specReplyOk_any c v _).mono ?_
    rintro e w5 ⟨rfl, b5⟩
    replace k1 := (b5.block _ (heap_lt k1)).trans k1
    replace k2 := (b5.block _ (heap_lt k2)).trans k2
    replace k3 := (b5.block _ (heap_lt k3)).trans k3
    replace d0 := bw_call d0 b5
    replace own := own.below b5
    clear b5 e0 e1 w4
    cases hr : repOk c v
    · rw [hr, if_neg (by simp)] at HV
      have HS : Hid _ := mem_end w w5 _ _ _ _ (w.heap.size + 1 + 1) ts rs (by omega) k2 (own.mono hds) d0
      have q0 := at_cell k2 0
      have q1 := at_cell k2 1
      have f0 := at_open k2 0
      have f1 := at_open k2 1
      have e0 := at_cell k3 0
      have e1 := at_cell k3 1
      clear k1 k2 k3 own d0 hr HOK
      go_wp2_with fail
      exact bodyPost_ret (v := .tuple #[.agg #[.slice o3 ts.length c3, .slice o4 rs.length c4], .bool false]) (by simp [results, Try.results14, go_sem, at_cell HS.out.1]) rfl ⟨_, _, by rw [HV.out], by rw [HV.out]; exact HS.out.2⟩
    · rw [hr, if_pos (by simp)] at HV
      obtain ⟨C, rfl⟩ := Int.eq_ofNat_of_zero_le hc0
      have hC : C < 4 := by omega
      have HCT : Hid (((C : Int)).toNat = C) := rfl
      rw [HCT.out] at HV
      have i0 : (0 : Int) ≤ (C : Int) := by omega
      have i1 : (C : Int) < 4 := by omega
      obtain ⟨g3, rfl⟩ : ∃ g3, o3 = some ⟨g3, 0, none⟩ := by
        have h := own.t
        rw [HL1.out] at h
        obtain ⟨g, cp, e⟩ := owns_form h
        simp only [Value.slice.injEq] at e
        exact ⟨g, e.1⟩
      obtain ⟨g4, rfl⟩ : ∃ g4, o4 = some ⟨g4, 0, none⟩ := by
        have h := own.r
        rw [HL2.out] at h
        obtain ⟨g, cp, e⟩ := owns_form h
        simp only [Value.slice.injEq] at e
        exact ⟨g, e.1⟩
      -- the tag
      have hj1 : C < ts.length := by rw [HL1.out]; exact hC
      have hj2 : C < rs.length := by rw [HL2.out]; exact hC
      have i2 : (C : Int) < (ts.length : Int) := by omega
      have i3 : (C : Int) < (rs.length : Int) := by omega
      have t3 := own.t.cellAt C (by omega)
      have tf := own.t.frozenAt C
      rw [getD_some ts C hj1] at t3
      generalize ts.getD C 0 = y at t3
      have l3 := own.t.lt g3 rfl
      have l4 := own.r.lt g4 rfl
      have n3 : nB ≠ g3 := fun e => own_not_box own.t k3 (by decide) (by rw [e]; rfl)
      have m3 : nB ≠ g4 := fun e => own_not_box own.r k3 (by decide) (by rw [e]; rfl)
      have n4 : g4 ≠ g3 := fun e => own.apart g3 rfl (by rw [e]; rfl)
      have hst := (own.t.stored C (.int .i64 tag)).1
      rw [← List.map_set] at hst
      have u6 : Upto g3 w5 (w5.setCell ⟨g3, C, none⟩ (.int .i64 tag)) := (Upto.refl _ _).setCell ⟨g3, C, none⟩ (.inl rfl) _
      have k16 := (u6.block _ (heap_lt k1) (by omega)).trans k1
      have k26 := (u6.block _ (heap_lt k2) (by omega)).trans k2
      have k36 := (u6.block _ (heap_lt k3) n3).trans k3
      have o6 := own_rng_not own.r (fun g hg hv => u6.block g hg (fun e => own.apart g3 rfl (by rw [← e]; exact hv)))
      have d6 := d0.trans (u6.toBelow d0.size (by omega))
      have e0 := at_cell k3 0
      have e1 := at_cell k3 1
      have HX : Hid _ := And.intro hst (And.intro k16 (And.intro k26 (And.intro k36 (And.intro o6 d6))))
      clear hst k16 k26 k36 o6 d6 u6 own d0 k1 k2 k3 HOK hr
      go_upto_region 7 with fail
      obtain ⟨hst, k1, k2, k3, o6, d6⟩ := HX.out
      clear HX t3 tf e0 e1
      generalize w5.setCell ⟨g3, C, none⟩ (.int .i64 tag) = w6 at *
      obtain ⟨⟨r0, r1⟩, s0, s1⟩ := own_two o6 C hj2
      generalize rs[C] = z at r0 r1
      have hst2 := own_rep o6 C hj2 c v
      have u7 : Upto g4 w6 ((w6.setCell ⟨g4, C * 2, none⟩ (.int .i64 c)).setCell ⟨g4, C * 2 + 1, none⟩ (.int .i64 v)) := ((Upto.refl _ _).setCell ⟨g4, C * 2, none⟩ (.inl rfl) _).setCell ⟨g4, C * 2 + 1, none⟩ (.inl rfl) _
      have k27 := (u7.block _ (heap_lt k2) (by omega)).trans k2
      have k37 := (u7.block _ (heap_lt k3) m3).trans k3
      have ht7 := own_rng_not hst (fun g hg hv => u7.block g hg (fun e => n4 (by have hv' : some g3 = some g := hv; rw [← e]; exact (Option.some.inj hv').symm)))
      have d7 := d6.trans (u7.toBelow d6.size (by omega))
      have e0 := at_cell k3 0
      have e1 := at_cell k3 1
      have a0 := at_cell k1 0
      have a1 := at_cell k1 1
      have HX : Hid _ := And.intro hst2 (And.intro ht7 (And.intro k27 (And.intro k37 d7)))
      clear hst hst2 k27 k37 ht7 o6 d6 d7 u7 k1 k2 k3
      go_upto_region 8 with fail
      obtain ⟨hr8, ht8, k2, k3, d8⟩ := HX.out
      clear HX r0 r1 s0 s1 e0 e1 a0 a1
      generalize (w6.setCell ⟨g4, C * 2, none⟩ (.int .i64 c)).setCell ⟨g4, C * 2 + 1, none⟩ (.int .i64 v) = w8 at *
      have ow8 : OwnM w.heap.size w8 (.slice (some ⟨g3, 0, none⟩) ts.length c3) (.slice (some ⟨g4, 0, none⟩) rs.length c4) (ts.set C tag) (rs.set C (c, v)) := ⟨by rw [List.length_set]; exact owns_mono ht8 hds, owns_mono hr8 hds⟩
      have HS : Hid _ := mem_end w w8 _ _ _ _ (w.heap.size + 1 + 1) (ts.set C tag) (rs.set C (c, v)) (by omega) k2 ow8 d8
      have q0 := at_cell k2 0
      have q1 := at_cell k2 1
      have f0 := at_open k2 0
      have f1 := at_open k2 1
      have e0 := at_cell k3 0
      have e1 := at_cell k3 1
      clear ow8 d8 k2 k3 hr8 ht8
      go_wp2_with fail
      exact bodyPost_ret (v := .tuple #[.agg #[.slice (some ⟨g3, 0, none⟩) ts.length c3, .slice (some ⟨g4, 0, none⟩) rs.length c4], .bool true]) (by simp [results, Try.results14, go_sem, at_cell HS.out.1]) rfl ⟨_, _, by rw [HV.out], by rw [HV.out]; exact HS.out.2⟩
  · rw [if_neg (fun h => hk h.1)] at HV
    have hkb : (knownT ts client tag != 0) = true := by rw [bne_iff_ne]; exact hk
    generalize knownT ts client tag = kk at *
    have HS : Hid _ := mem_end w w4 _ _ _ _ (w.heap.size + 1 + 1) ts rs (by omega) k2 (own.mono hds) d0
    have q0 := at_cell k2 0
    have q1 := at_cell k2 1
    have f0 := at_open k2 0
    have f1 := at_open k2 1
    have e0 := at_cell k3 0
    have e1 := at_cell k3 1
    clear k1 k2 k3 own d0 HOK hk
    go_wp2_with fail
    exact bodyPost_ret (v := .tuple #[.agg #[.slice o3 ts.length c3, .slice o4 rs.length c4], .bool false]) (by simp [results, Try.results14, go_sem, at_cell HS.out.1]) rfl ⟨_, _, by rw [HV.out], by rw [HV.out]; exact HS.out.2⟩
end Go.Proofs.Ytpmoefagpglddaa

namespace Go.Proofs.Ytpmoefagpglddaa
open Go.RowKit

set_option linter.unusedVariables false

set_option maxRecDepth 100000


theorem filter_le' {p q : Nat → Bool} : ∀ (l : List Nat), (∀ x ∈ l, q x = true → p x = true) → (l.filter q).length ≤ (l.filter p).length
  | [], _ => Nat.le_refl _
  | x :: l, h => by
    have ih := filter_le' l (fun y hy => h y (List.mem_cons_of_mem _ hy))
    have hx := h x (List.mem_cons_self ..)
    rw [List.filter_cons, List.filter_cons]
    cases hq : q x
    · cases hp : p x
      · simpa using ih
      · simp only [Bool.false_eq_true, if_false, if_true, List.length_cons]; omega
    · rw [hx hq]
      simp only [if_true, List.length_cons]; omega

theorem filter_lt' {p q : Nat → Bool} {i : Nat} (hp : p i = true) (hq : q i = false) : ∀ (l : List Nat), (∀ x ∈ l, q x = true → p x = true) → i ∈ l → (l.filter q).length < (l.filter p).length
  | [], _, h => by simp at h
  | x :: l, hpq, h => by
    have hle := filter_le' l (fun y hy => hpq y (List.mem_cons_of_mem _ hy))
    rw [List.filter_cons, List.filter_cons]
    rcases List.mem_cons.1 h with rfl | h'
    · rw [hp, hq]
      simp only [Bool.false_eq_true, if_false, if_true, List.length_cons]; omega
    · have ih := filter_lt' hp hq l (fun y hy => hpq y (List.mem_cons_of_mem _ hy)) h'
      have hx := hpq x (List.mem_cons_self ..)
      cases hq2 : q x
      · cases hp2 : p x
        · simpa using ih
        · simp only [Bool.false_eq_true, if_false, if_true, List.length_cons]; omega
      · rw [hx hq2]
        simp only [if_true, List.length_cons]; omega

section
variable {P : Program} {ops : Array Oper} {Q : Exit → Act → World → Prop} {md : Region.Mode}
theorem ready_mem {L : Array Bool} {i : Nat} (h : i ∈ Region.ready md ops L) : i < ops.size ∧ L.getD i true = false ∧ ∃ o, ops[i]? = some o ∧ ∀ e ∈ o.after, Region.binds md e = true → L.getD e.on false = true := by
  simp only [Region.ready, List.mem_filter, List.mem_range, Bool.and_eq_true, Bool.not_eq_true'] at h
  obtain ⟨h1, h2, h3⟩ := h
  refine ⟨h1, h2, ops[i], Array.getElem?_eq_getElem h1, fun e he hb => ?_⟩
  rw [Array.getElem?_eq_getElem h1] at h3
  simp only [Option.map_some, Option.getD_some, Array.all_eq_true_iff_forall_mem] at h3
  have := h3 e he
  rw [hb] at this
  simpa using this

/-- Does operation i wait for operation k? -/
def depB (md : Region.Mode) (ops : Array Oper) (i k : Nat) : Bool := ((ops[i]?).map (fun o => o.after.any (fun e => e.on == k && Region.binds md e))).getD false

/-- What is done has done what it waits for. -/
def Down (md : Region.Mode) (ops : Array Oper) (L : Array Bool) : Prop := ∀ i k, L.getD i false = true → depB md ops i k = true → L.getD k false = true

theorem ready_dep {L : Array Bool} {i k : Nat} (h : i ∈ Region.ready md ops L) (hk : depB md ops i k = true) : L.getD k false = true := by
  obtain ⟨-, -, o, ho, hd⟩ := ready_mem h
  unfold depB at hk
  rw [ho] at hk
  simp only [Option.map_some, Option.getD_some, Array.any_eq_true'] at hk
  obtain ⟨e, he, hk⟩ := hk
  simp only [Bool.and_eq_true, beq_iff_eq] at hk
  rw [← hk.1]
  exact hd e he hk.2

theorem Down.not {L : Array Bool} {i k : Nat} (h : Down md ops L) (hk : depB md ops i k = true) (hn : L.getD k true = false) : L.getD i false = false := by
  rw [Bool.eq_false_iff]
  intro hi
  have := h i k hi hk
  simp only [Array.getD_eq_getD_getElem?] at this hn
  cases hL : L[k]? with
  | none => rw [hL] at hn; simp at hn
  | some b => rw [hL] at hn this; simp only [Option.getD_some] at hn this; rw [hn] at this; cases this

theorem Down.step {L : Array Bool} {i : Nat} (h : Down md ops L) (hz : L.size = ops.size) (hi : i ∈ Region.ready md ops L) : Down md ops (L.setIfInBounds i true) := fun j k hj hk => by
  have up : ∀ k, L.getD k false = true → (L.setIfInBounds i true).getD k false = true := fun k hk => by
    by_cases e : i = k
    · subst e
      have := (ready_mem hi).1
      simp [Array.getD_eq_getD_getElem?, hz, this]
    · simpa [Array.getD_eq_getD_getElem?, e] using hk
  by_cases e : i = j
  · subst e
    exact up k (ready_dep hi hk)
  · exact up k (h j k (by simpa [Array.getD_eq_getD_getElem?, e] using hj) hk)

theorem not_done {L : Array Bool} {i : Nat} (hn : L.getD i true = false) : L.getD i false = false := by
  simp only [Array.getD_eq_getD_getElem?] at hn ⊢
  cases hL : L[i]? with
  | none => rw [hL] at hn; simp at hn
  | some b => rw [hL] at hn; simpa using hn

/-- Where each operation waits for earlier ones alone and nothing is ready, all is done. -/
def backB (md : Region.Mode) (ops : Array Oper) : Bool := (List.range ops.size).all (fun i => ((ops[i]?).map (fun o => o.after.toList.all (fun e => !Region.binds md e || decide (e.on < i)))).getD false)

theorem all_done {L : Array Bool} (hz : L.size = ops.size) (hr : Region.ready md ops L = []) (hb : backB md ops = true) : ∀ i, i < ops.size → L.getD i false = true := by
  intro i
  induction i using Nat.strongRecOn with
  | _ i ih =>
    intro hi
    refine Classical.byContradiction fun hc => ?_
    have hni : L.getD i true = false := by
      simp only [Array.getD_eq_getD_getElem?] at hc ⊢
      rw [Array.getElem?_eq_getElem (by omega)] at hc ⊢
      simpa using hc
    have hm : i ∈ Region.ready md ops L := by
      simp only [Region.ready, List.mem_filter, List.mem_range, Bool.and_eq_true, Bool.not_eq_true']
      refine ⟨hi, hni, ?_⟩
      rw [Array.getElem?_eq_getElem hi]
      simp only [Option.map_some, Option.getD_some, Array.all_eq_true_iff_forall_mem]
      intro e he
      unfold backB at hb
      rw [List.all_eq_true] at hb
      have h1 := hb i (List.mem_range.2 hi)
      rw [Array.getElem?_eq_getElem hi] at h1
      simp only [Option.map_some, Option.getD_some, List.all_eq_true] at h1
      have h2 := h1 e (by simpa using he)
      cases hbi : Region.binds md e
      · rfl
      · rw [hbi] at h2
        have h3 : e.on < i := by simpa using h2
        rw [ih e.on h3 (by omega)]
        rfl
    rw [hr] at hm
    simp at hm

theorem wpAny_inv {I : Array Bool → Act → World → Prop} (hs : ∀ L a x i, L.size = ops.size → Down md ops L → i ∈ Region.ready md ops L → I L a x → wpOp P ops Q i (I (L.setIfInBounds i true)) a x) (he : ∀ L a x, L.size = ops.size → Down md ops L → Region.ready md ops L = [] → I L a x → Q .normal a x) :
    ∀ (fuel : Nat) (L : Array Bool) (a : Act) (x : World), L.size = ops.size → Down md ops L → ((List.range ops.size).filter (fun i => !L.getD i true)).length ≤ fuel → I L a x → wpAny P md ops Q fuel L a x := by
  intro fuel
  induction fuel with
  | zero =>
    intro L a x hz hD hc h
    have hr : Region.ready md ops L = [] := by
      rw [List.eq_nil_iff_forall_not_mem]
      intro i hi
      obtain ⟨h1, h2, -⟩ := ready_mem hi
      have : i ∈ (List.range ops.size).filter (fun i => !L.getD i true) := by
        rw [List.mem_filter]
        exact ⟨List.mem_range.2 h1, by rw [h2]; rfl⟩
      rw [List.length_eq_zero_iff.1 (Nat.le_zero.1 hc)] at this
      simp at this
    exact ⟨hr, he L a x hz hD hr h⟩
  | succ fuel ih =>
    intro L a x hz hD hc h
    refine ⟨fun hr => he L a x hz hD hr h, fun i hi => wpOp_mono (fun a' x' h' => ih _ a' x' (by rw [Array.size_setIfInBounds]; exact hz) (hD.step hz hi) ?_ h') (hs L a x i hz hD hi h)⟩
    obtain ⟨h1, h2, -⟩ := ready_mem hi
    have hlt := filter_lt' (p := fun j => !L.getD j true) (q := fun j => !(L.setIfInBounds i true).getD j true) (i := i) (by simp only [h2]; rfl) (by simp only [Array.getD_eq_getD_getElem?, Array.getElem?_setIfInBounds_self, hz, h1]; simp) (List.range ops.size) (fun j _ hj => by
      by_cases e : i = j
      · subst e
        simp only [Array.getD_eq_getD_getElem?, Array.getElem?_setIfInBounds_self, hz, h1] at hj
        simp at hj
      · simp only [Array.getD_eq_getD_getElem?, Array.getElem?_setIfInBounds, e, if_false] at hj ⊢
        exact hj) (List.mem_range.2 h1)
    omega

theorem wp_region_inv {I : Array Bool → Act → World → Prop} {id : Nat} {a : Act} {w : World} (hm : P.follows .mixedOrders = true) (h0 : I (Array.replicate ops.size false) a w.drew)
    (hs : ∀ L a x i, L.size = ops.size → Down .any ops L → i ∈ Region.ready .any ops L → I L a x → wpOp P ops Q i (I (L.setIfInBounds i true)) a x) (he : ∀ L a x, L.size = ops.size → Down .any ops L → Region.ready .any ops L = [] → I L a x → Q .normal a x) : (Code.region id ops true).wp P Q a w :=
  wp_region_any hm (wpAny_inv hs he ops.size _ a _ (by simp) (fun i k hi => by rw [Array.getD_eq_getD_getElem?, Array.getElem?_replicate] at hi; split at hi <;> simp at hi) (by refine Nat.le_trans (List.length_filter_le ..) ?_; simp) h0)

end
end Go.Proofs.Ytpmoefagpglddaa

namespace Go.Proofs.Ytpmoefagpglddaa
open Go.RowKit

set_option linter.unusedVariables false

set_option maxRecDepth 100000

theorem setRow_row {w : World} {g : Nat} {old cs : Array Value} {ty : TypeId} {fr : Nat × Nat} (hg : w.heap[g]? = some (.cells old ty fr)) : (w.setRow g cs).heap[g]? = some (.cells cs ty fr) := by
  simp only [World.setRow, Array.getElem?_modify, hg, if_true]
  rfl

theorem setRow_below {w : World} {g B : Nat} {cs : Array Value} (h : B ≤ g) : Below B w (w.setRow g cs) := by
  refine ⟨rfl, rfl, rfl, by simp [World.setRow], fun k hk => ?_⟩
  simp only [World.setRow, Array.getElem?_modify]
  rw [if_neg (by omega)]

theorem one_cells (xs : List Int) (c : Array Value) (h : c.toList = xs.map (Value.int .i64)) : c.all (·.oneCell') = true := by
  rw [Array.all_eq_true_iff_forall_mem]
  intro u hu
  have : u ∈ c.toList := by simpa using hu
  rw [h] at this
  obtain ⟨x, _, rfl⟩ := List.mem_map.1 this
  rfl
end Go.Proofs.Ytpmoefagpglddaa

