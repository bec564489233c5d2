/-
  Contracts and plain laws, one chapter behind the other.
-/
import Derived.DeepKeys4
import Derived.Maps.OwnOps
import Derived.Maps.OwnSet
import Derived.Maps.RangeWalk
import Derived.WideKeyEntry
import Derived.Test.YtgabhnhfomekfaaM22
import Derived.Test.YtgabhnhfomekfaaM27
namespace Go.Proofs.Ytgabhnhfomekfaa
open Go.RowKit

set_option linter.unusedVariables false

set_option maxRecDepth 100000


/-- A letter's value. -/
def mgV (m : Mg) : Value := .agg #[.int .i64 m.kd, .int .i64 m.ds, .int .i64 m.vw, .int .i64 m.e.sq, .int .i64 m.e.cl, .int .i64 m.e.tg, .int .i64 m.e.o.k, .string m.e.o.nm, .string m.e.o.ot, .int .i64 m.e.o.at_, .int .i64 m.e.o.va, .int .i64 m.e.o.ep, .int .i64 m.s, .int .i64 m.rc, .int .i64 m.rv]

theorem mgV_inj {m m' : Mg} (h : mgV m = mgV m') : m = m' := by
  obtain ⟨kd, ds, vw, ⟨sq, cl, tg, ⟨k, nm, ot, at_, va, ep⟩⟩, s, rc, rv⟩ := m
  obtain ⟨kd', ds', vw', ⟨sq', cl', tg', ⟨k', nm', ot', at_', va', ep'⟩⟩, s', rc', rv'⟩ := m'
  simp only [mgV, Value.agg.injEq, Array.mk.injEq, List.cons.injEq, Value.int.injEq, Value.string.injEq, true_and, and_true] at h
  obtain ⟨rfl, rfl, rfl, rfl, rfl, rfl, rfl, rfl, rfl, rfl, rfl, rfl, rfl, rfl, rfl⟩ := h
  rfl

theorem i64_wf15 {x : Int} (h : I64 x) : (Lit.int .i64 x).wf = true := by simpa [I64, Lit.wf, IntKind.min, IntKind.max, IntKind.signed, IntKind.bits] using h

theorem bagLaid : laidOutB Try.prog = true := by kernel_rfl

theorem bagWide : (match Try.prog.underlying 38 with | some (.array _ _) | some (.struct _) => true | _ => false) = true := by rw [Try.underlying38]

theorem bagLaw : WideMaps.KeyLaw Try.prog 38 := deep_law_laid bagLaid (m := 4) (by omega) (of_decide_eq_true (by kernel_rfl)) (by kernel_rfl) bagWide

theorem bagKeys : Maps.Keyed Try.prog 38 := Maps.Keyed.of_law bagLaw

theorem bagZero (w : World) : (zeroValue 72).run Try.prog w = .ok (.int .u64 0) w := by kernel_rfl

theorem kl_int (d : Nat) {x : Int} (h : I64 x) : Try.prog.keyLits (d + 1) 2 [.int .i64 x] = some [.int .i64 x] := by
  have hw := i64_wf15 h
  unfold Program.keyLits
  simp [Try.underlying2, hw]

theorem kl_str (d : Nat) {s : ByteArray} (h : s.size ≤ maxLen) : Try.prog.keyLits (d + 1) 9 [.string s] = some [.string s.data.toList] := by
  unfold Program.keyLits
  simp [Try.underlying9, h]

theorem cells_i64 : Try.prog.cellsOf 2 = 1 := by kernel_rfl

theorem cells_str : Try.prog.cellsOf 9 = 1 := by kernel_rfl

theorem cells_op : Try.prog.cellsOf 32 = 6 := by kernel_rfl

theorem cells_ent : Try.prog.cellsOf 34 = 9 := by kernel_rfl

theorem cells_rep : Try.prog.cellsOf 36 = 2 := by kernel_rfl

theorem cells_msg : Try.prog.cellsOf 38 = 15 := by kernel_rfl

theorem kl_op (d : Nat) {k at_ va ep : Int} {nm ot : ByteArray} (h1 : I64 k) (h2 : nm.size ≤ maxLen) (h3 : ot.size ≤ maxLen) (h4 : I64 at_) (h5 : I64 va) (h6 : I64 ep) :
    ∃ L, Try.prog.keyLits (d + 2) 32 [.int .i64 k, .string nm, .string ot, .int .i64 at_, .int .i64 va, .int .i64 ep] = some L := by
  unfold Program.keyLits
  simp only [Try.underlying32]
  rw [if_pos ⟨by rw [cells_op]; rfl, by kernel_rfl⟩]
  simp [List.mapM_cons, cells_i64, cells_str, kl_int d h1, kl_str d h2, kl_str d h3, kl_int d h4, kl_int d h5, kl_int d h6]

theorem kl_ent (d : Nat) {e : Ent} (h : FitEnt e) : ∃ L, Try.prog.keyLits (d + 3) 34 (entC e) = some L := by
  obtain ⟨⟨h2, h3⟩, g1, g2, g3, h1, h4, h5, h6⟩ := h
  obtain ⟨L, hL⟩ := kl_op d h1 h2 h3 h4 h5 h6
  unfold Program.keyLits
  simp only [Try.underlying34]
  rw [if_pos ⟨by rw [cells_ent]; rfl, by kernel_rfl⟩]
  simp [entC, List.mapM_cons, cells_i64, cells_op, kl_int (d + 1) g1, kl_int (d + 1) g2, kl_int (d + 1) g3, hL]

theorem kl_rep (d : Nat) {c v : Int} (h1 : I64 c) (h2 : I64 v) : ∃ L, Try.prog.keyLits (d + 2) 36 [.int .i64 c, .int .i64 v] = some L := by
  unfold Program.keyLits
  simp only [Try.underlying36]
  rw [if_pos ⟨by rw [cells_rep]; rfl, by kernel_rfl⟩]
  simp [List.mapM_cons, cells_i64, kl_int d h1, kl_int d h2]

theorem kl_msg (d : Nat) {m : Mg} (h : FitMsg m) : ∃ L, Try.prog.keyLits (d + 4) 38 (mgC m) = some L := by
  obtain ⟨he, h1, h2, h3, h4, h5, h6⟩ := h
  obtain ⟨Le, hLe⟩ := kl_ent d he
  obtain ⟨Lr, hLr⟩ := kl_rep (d + 1) h5 h6
  simp only [entC] at hLe
  unfold Program.keyLits
  simp only [Try.underlying38]
  rw [if_pos ⟨by rw [cells_msg]; rfl, by kernel_rfl⟩]
  simp [mgC, List.mapM_cons, cells_i64, cells_ent, cells_rep, kl_int (d + 2) h1, kl_int (d + 2) h2, kl_int (d + 2) h3, kl_int (d + 2) h4, hLe, hLr]

/-- A letter is a key. -/
theorem key_of {m : Mg} (h : FitMsg m) : ∃ kl, keyOf Try.prog 38 (mgV m) = some kl := by
  have hn : 4 ≤ Try.prog.types.size := of_decide_eq_true (by kernel_rfl)
  obtain ⟨L, hL⟩ := kl_msg (Try.prog.types.size - 3) h
  rw [show Try.prog.types.size - 3 + 4 = Try.prog.types.size + 1 by omega] at hL
  refine ⟨.string (keyBytes L), ?_⟩
  unfold keyOf
  simp only [Try.underlying38]
  rw [if_pos (by
    rw [show Try.prog.keyType 38 = true by kernel_rfl]
    simp [mgV, Value.formed, Try.underlying38, cells_msg])]
  have e : (mgV m).cells.toList = mgC m := rfl
  rw [e, hL]
  rfl

theorem key_same {m m' : Mg} {kl : Lit} (h : keyOf Try.prog 38 (mgV m) = some kl) (h' : keyOf Try.prog 38 (mgV m') = some kl) : m = m' := mgV_inj (bagKeys.inj h h')

/-- How a set of places reads. -/
noncomputable abbrev bagR : Value → Option (DataW Unit × List MemPlace) := plainElem (H := Unit) Try.prog 72

abbrev setD (c : Nat) : DataW Unit := .lit (.int .u64 (c : Int))

theorem setD_inj {c c' : Nat} (h : setD c = setD c') : c = c' := by
  simp only [setD, DataW.lit.injEq, Lit.int.injEq, true_and] at h
  omega

/-- The datum D says that at each place stands what f says. -/
structure BagD (D : DataW Unit) (f : Nat → Option Mg) : Prop where
  map : Maps.IsMap D
  known : ∀ kl, Maps.has D kl = true → ∃ m, FitMsg m ∧ keyOf Try.prog 38 (mgV m) = some kl
  at_ : ∀ m kl, keyOf Try.prog 38 (mgV m) = some kl → ∃ c : Nat, D.atKey kl (setD 0) = setD c ∧ MaskOf c f m
  all : ∀ p m kl, p < 60 → f p = some m → keyOf Try.prog 38 (mgV m) = some kl → Maps.has D kl = true

/-- No letter is there that stands nowhere. -/
def Tight (D : DataW Unit) (f : Nat → Option Mg) : Prop := ∀ m kl, keyOf Try.prog 38 (mgV m) = some kl → Maps.has D kl = true → ∃ p, p < 60 ∧ f p = some m

theorem bagD_none {f : Nat → Option Mg} (h : ∀ p, p < 60 → f p = none) : BagD (.map []) f :=
  ⟨⟨[], rfl⟩, (fun kl h => by cases h), (fun m kl hk => ⟨0, rfl, mask_none fun p hp => by rw [h p hp]; simp⟩), (fun p m kl hp hf => by rw [h p hp] at hf; cases hf)⟩

theorem tight_none {f : Nat → Option Mg} : Tight (.map []) f := fun m kl hk h => by cases h

theorem BagD.put {D : DataW Unit} {f : Nat → Option Mg} (h : BagD D f) {k : Nat} (hk : k < 60) {m : Mg} (hf : FitMsg m) (h0 : f k = none) {kl : Lit} (hkl : keyOf Try.prog 38 (mgV m) = some kl) {c : Nat} (hc : D.atKey kl (setD 0) = setD c) :
    BagD (D.put kl (setD (c ||| 2 ^ k))) (upd f k (some m)) := by
  have hK := bagKeys.key hkl
  refine ⟨h.map.put _ _, fun kl' hh => ?_, fun m' kl' hkl' => ?_, fun p m' kl' hp hp' hkl' => ?_⟩
  · by_cases e : kl' = kl
    · subst e; exact ⟨m, hf, hkl⟩
    · rw [Maps.has_put_other e] at hh
      exact h.known kl' hh
  · by_cases e : kl' = kl
    · subst e
      obtain rfl := key_same hkl hkl'
      obtain ⟨c', h1, h2⟩ := h.at_ m kl' hkl
      obtain rfl := setD_inj (h1.symm.trans hc)
      exact ⟨_, Maps.atKey_put_same h.map hK _ _, mask_put h2 hk⟩
    · obtain ⟨c', h1, h2⟩ := h.at_ m' kl' hkl'
      refine ⟨c', by rw [Maps.atKey_put_other e]; exact h1, mask_same h2 (by rw [h0]; simp) ?_⟩
      intro e2
      cases e2
      rw [hkl] at hkl'
      cases hkl'
      exact e rfl
  · by_cases e : kl' = kl
    · subst e; exact Maps.has_put_same h.map hK _
    · rw [Maps.has_put_other e]
      by_cases e2 : p = k
      · subst e2
        rw [upd_at] at hp'
        cases hp'
        rw [hkl] at hkl'
        cases hkl'
        exact absurd rfl e
      · rw [upd_ne f _ e2] at hp'
        exact h.all p m' kl' hp hp' hkl'

theorem Tight.put {D : DataW Unit} {f : Nat → Option Mg} (h : Tight D f) {k : Nat} (hk : k < 60) {m : Mg} (h0 : f k = none) {kl : Lit} (hkl : keyOf Try.prog 38 (mgV m) = some kl) (d : DataW Unit) : Tight (D.put kl d) (upd f k (some m)) := by
  intro m' kl' hkl' hh
  by_cases e : kl' = kl
  · subst e
    obtain rfl := key_same hkl hkl'
    exact ⟨k, hk, upd_at _ _ _⟩
  · rw [Maps.has_put_other e] at hh
    obtain ⟨p, hp, h1⟩ := h m' kl' hkl' hh
    refine ⟨p, hp, ?_⟩
    rw [upd_ne f _ (fun e2 => by subst e2; rw [h0] at h1; cases h1)]
    exact h1

theorem BagD.drop {D : DataW Unit} {f : Nat → Option Mg} (h : BagD D f) {k : Nat} (hk : k < 60) {m : Mg} (hf : FitMsg m) (h0 : f k = some m) {kl : Lit} (hkl : keyOf Try.prog 38 (mgV m) = some kl) {c : Nat} (hc : D.atKey kl (setD 0) = setD c) :
    BagD (D.put kl (setD (clr c k))) (upd f k none) := by
  have hK := bagKeys.key hkl
  refine ⟨h.map.put _ _, fun kl' hh => ?_, fun m' kl' hkl' => ?_, fun p m' kl' hp hp' hkl' => ?_⟩
  · by_cases e : kl' = kl
    · subst e; exact ⟨m, hf, hkl⟩
    · rw [Maps.has_put_other e] at hh
      exact h.known kl' hh
  · by_cases e : kl' = kl
    · subst e
      obtain rfl := key_same hkl hkl'
      obtain ⟨c', h1, h2⟩ := h.at_ m kl' hkl
      obtain rfl := setD_inj (h1.symm.trans hc)
      exact ⟨_, Maps.atKey_put_same h.map hK _ _, mask_drop h2 hk⟩
    · obtain ⟨c', h1, h2⟩ := h.at_ m' kl' hkl'
      refine ⟨c', by rw [Maps.atKey_put_other e]; exact h1, mask_same h2 ?_ (by simp)⟩
      rw [h0]
      intro e2
      cases e2
      rw [hkl] at hkl'
      cases hkl'
      exact e rfl
  · by_cases e : kl' = kl
    · subst e; exact Maps.has_put_same h.map hK _
    · rw [Maps.has_put_other e]
      by_cases e2 : p = k
      · subst e2
        rw [upd_at] at hp'
        cases hp'
      · rw [upd_ne f _ e2] at hp'
        exact h.all p m' kl' hp hp' hkl'

/-- Block b is such a bag, of n entries at most. -/
structure BagW (w : World) (b n : Nat) (f : Nat → Option Mg) : Prop where
  ex : ∃ D, w.ownsMap Try.prog 38 bagR b n D ∧ BagD D f

structure BagT (w : World) (b n : Nat) (f : Nat → Option Mg) : Prop where
  ex : ∃ D, w.ownsMap Try.prog 38 bagR b n D ∧ BagD D f ∧ Tight D f

theorem BagT.w {w : World} {b n : Nat} {f : Nat → Option Mg} (h : BagT w b n f) : BagW w b n f := by
  obtain ⟨D, h1, h2, -⟩ := h.ex
  exact ⟨D, h1, h2⟩

theorem BagW.lt {w : World} {b n : Nat} {f : Nat → Option Mg} (h : BagW w b n f) : b < w.heap.size := by
  obtain ⟨D, h1, -⟩ := h.ex
  exact h1.lt

theorem BagT.lt {w : World} {b n : Nat} {f : Nat → Option Mg} (h : BagT w b n f) : b < w.heap.size := h.w.lt

theorem BagW.mono {w : World} {b n n' : Nat} {f : Nat → Option Mg} (h : BagW w b n f) (k : n ≤ n') : BagW w b n' f := by
  obtain ⟨D, h1, h2⟩ := h.ex
  exact ⟨D, h1.mono k, h2⟩

theorem map_of_block {w w' : World} {b n : Nat} {D : DataW Unit} (h : w.ownsMap Try.prog 38 bagR b n D) (e : w'.heap[b]? = w.heap[b]?) : w'.ownsMap Try.prog 38 bagR b n D := by
  obtain ⟨es, clock, hb, r⟩ := h
  exact ⟨es, clock, e.trans hb, r⟩

theorem BagW.block {w w' : World} {b n : Nat} {f : Nat → Option Mg} (h : BagW w b n f) (e : w'.heap[b]? = w.heap[b]?) : BagW w' b n f := by
  obtain ⟨D, h1, h2⟩ := h.ex
  exact ⟨D, map_of_block h1 e, h2⟩

theorem BagT.block {w w' : World} {b n : Nat} {f : Nat → Option Mg} (h : BagT w b n f) (e : w'.heap[b]? = w.heap[b]?) : BagT w' b n f := by
  obtain ⟨D, h1, h2⟩ := h.ex
  exact ⟨D, map_of_block h1 e, h2⟩

theorem BagW.below {w w' : World} {b n : Nat} {f : Nat → Option Mg} (h : BagW w b n f) (k : Below w.heap.size w w') : BagW w' b n f := h.block (k.block _ h.lt)

theorem BagT.below {w w' : World} {b n : Nat} {f : Nat → Option Mg} (h : BagT w b n f) (k : Below w.heap.size w w') : BagT w' b n f := h.block (k.block _ h.lt)

theorem bag_made (w : World) {f : Nat → Option Mg} (h : ∀ p, p < 60 → f p = none) : BagT (w.alloc (.map #[] 0)) w.heap.size 0 f :=
  ⟨_, World.ownsMap_made w _ _ _, bagD_none h, tight_none⟩
end Go.Proofs.Ytgabhnhfomekfaa

