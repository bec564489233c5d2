/-
  Contracts and plain laws, one chapter behind the other.
-/
import Derived.Lib.AppendZeros
import Derived.Test.YtgabhnhfomekfaaM06
import Derived.Test.YtgabhnhfomekfaaM22
import Derived.Test.YtgabhnhfomekfaaM23
namespace Go.Proofs.Ytgabhnhfomekfaa
open Go.RowKit

set_option linter.unusedVariables false

set_option maxRecDepth 100000


set_option maxHeartbeats 1600000 in
theorem growM_any (n : Nat) (hn : n ≤ 60) (w : World) :
    Calls Try.prog 57 #[.slice none 0 0, .int .i64 n] w fun e w' => ∃ v : Value, e = .returned v ∧ w'.ownsRow w.heap.size 38 15 v 0 [] ∧ Below w.heap.size w w' := by
  obtain ⟨i0, hi, hz0, hz1, hz2⟩ := info_parts Try.infoMsg
  have h1 : ¬ ((n : Int) < 0) := by omega
  rcases Nat.eq_zero_or_pos n with h0 | hpos
  · subst h0
    go_enter Try.func57, Try.ntmps57
    go_wp2_with fail
    go_ret
    exact ⟨_, rfl, World.ownsRow_nil _ _ _ _, Below.refl _ _⟩
  · have h2 : (0 : Int) < (n : Int) := by omega
    have hrz : ∀ ty, (Builtin.append_ #[24, 3] ty #[.slice none 0 0, .int .i64 (n : Int)]).run Try.prog w = .ok (.slice (some ⟨w.heap.size, 0, none⟩) n (grownCap w n 0 38)) (w.drew.alloc (.cells (Builtin.zeroCells (Value.agg #[.int .i64 0, .int .i64 0, .int .i64 0, .int .i64 0, .int .i64 0, .int .i64 0, .int .i64 0, .string ByteArray.empty, .string ByteArray.empty, .int .i64 0, .int .i64 0, .int .i64 0, .int .i64 0, .int .i64 0, .int .i64 0]).cells n ++ Builtin.zeroCells (Value.agg #[.int .i64 0, .int .i64 0, .int .i64 0, .int .i64 0, .int .i64 0, .int .i64 0, .int .i64 0, .string ByteArray.empty, .string ByteArray.empty, .int .i64 0, .int .i64 0, .int .i64 0, .int .i64 0, .int .i64 0, .int .i64 0]).cells (grownCap w n 0 38 - n)) 38)) := fun ty =>
      Lib.run_append_nil_zeros w 24 3 ty 38 i0 _ .i64 .i64 Try.underlying24 Try.underlying3 hi hz0 n hpos (by rw [hz1]; omega) (by omega) (by rw [hz2]; omega)
    have hG1 := grownCap_ge w n 0 38
    have hG2 := grownCap_le_maxLen w n 0 38 (by unfold maxLen; omega)
    generalize grownCap w n 0 38 = G at hrz hG1 hG2
    have hown := World.ownsRow_made (base := w.heap.size) (e := 38) (size := 15) w.drew (Builtin.zeroCells (Value.agg #[.int .i64 0, .int .i64 0, .int .i64 0, .int .i64 0, .int .i64 0, .int .i64 0, .int .i64 0, .string ByteArray.empty, .string ByteArray.empty, .int .i64 0, .int .i64 0, .int .i64 0, .int .i64 0, .int .i64 0, .int .i64 0]).cells n ++ Builtin.zeroCells (Value.agg #[.int .i64 0, .int .i64 0, .int .i64 0, .int .i64 0, .int .i64 0, .int .i64 0, .int .i64 0, .string ByteArray.empty, .string ByteArray.empty, .int .i64 0, .int .i64 0, .int .i64 0, .int .i64 0, .int .i64 0, .int .i64 0]).cells (G - n)) G (Nat.le_refl _) hG2 (by
      rw [Array.size_append, size_zeroCells, size_zeroCells]
      show n * 15 + (G - n) * 15 = G * 15
      omega)
    have hb : Below w.heap.size w (w.drew.alloc (.cells (Builtin.zeroCells (Value.agg #[.int .i64 0, .int .i64 0, .int .i64 0, .int .i64 0, .int .i64 0, .int .i64 0, .int .i64 0, .string ByteArray.empty, .string ByteArray.empty, .int .i64 0, .int .i64 0, .int .i64 0, .int .i64 0, .int .i64 0, .int .i64 0]).cells n ++ Builtin.zeroCells (Value.agg #[.int .i64 0, .int .i64 0, .int .i64 0, .int .i64 0, .int .i64 0, .int .i64 0, .int .i64 0, .string ByteArray.empty, .string ByteArray.empty, .int .i64 0, .int .i64 0, .int .i64 0, .int .i64 0, .int .i64 0, .int .i64 0]).cells (G - n)) 38)) := bw_alloc (bw_drew (Below.refl _ _))
    obtain ⟨M, hM⟩ : ∃ M, M = Builtin.zeroCells (Value.agg #[.int .i64 0, .int .i64 0, .int .i64 0, .int .i64 0, .int .i64 0, .int .i64 0, .int .i64 0, .string ByteArray.empty, .string ByteArray.empty, .int .i64 0, .int .i64 0, .int .i64 0, .int .i64 0, .int .i64 0, .int .i64 0]).cells n ++ Builtin.zeroCells (Value.agg #[.int .i64 0, .int .i64 0, .int .i64 0, .int .i64 0, .int .i64 0, .int .i64 0, .int .i64 0, .string ByteArray.empty, .string ByteArray.empty, .int .i64 0, .int .i64 0, .int .i64 0, .int .i64 0, .int .i64 0, .int .i64 0]).cells (G - n) := ⟨_, rfl⟩
    rw [← hM] at hown hb
    simp only [← hM] at hrz
    clear hM
    have HO : Hid _ := And.intro hown hb
    clear hown hb
    unfold maxLen at hG2
    go_enter Try.func57, Try.ntmps57
    go_wp2_with (at_builtin; refine Lib.wpList_append_run _ rfl _ _ _ _ rfl _ _ rfl rfl _ _ (hrz _) ?_)
    all_goals
      go_ret
      exact ⟨_, rfl, HO.out.1, HO.out.2⟩

/-- Some rows of letters, one behind the other in a block of slices. -/
structure Lists (B : Nat) (w : World) (c : Nat) (ls : List (Value × List Mg)) : Prop where
  at_ : ∀ i x, ls[i]? = some x → w.cell? ⟨c, i, none⟩ = some x.1 ∧ ReadsR 15 mgC B w x.1 x.2 ∧ c < B

theorem Lists.below {B : Nat} {w w' : World} {c : Nat} {ls : List (Value × List Mg)} (h : Lists B w c ls) (k : Below B w w') : Lists B w' c ls :=
  ⟨fun i x hx => by
    obtain ⟨h1, h2, h3⟩ := h.at_ i x hx
    exact ⟨(k.cell (p := ⟨c, i, none⟩) h3).trans h1, h2.below k, h3⟩⟩

theorem Lists.mono {B B' : Nat} {w : World} {c : Nat} {ls : List (Value × List Mg)} (h : Lists B w c ls) (k : B ≤ B') : Lists B' w c ls :=
  ⟨fun i x hx => by
    obtain ⟨h1, h2, h3⟩ := h.at_ i x hx
    exact ⟨h1, h2.mono k, Nat.lt_of_lt_of_le h3 k⟩⟩

def catL (ls : List (Value × List Mg)) : List Mg := ls.flatMap (·.2)

theorem cat_step (ls : List (Value × List Mg)) (k : Nat) (x : Value × List Mg) (h : ls[k]? = some x) : catL (ls.take (k + 1)) = catL (ls.take k) ++ x.2 := by
  unfold catL
  rw [List.take_add_one, h, List.flatMap_append]
  simp

theorem cat_le (ls : List (Value × List Mg)) (k : Nat) : (catL (ls.take k)).length ≤ (catL ls).length := by
  unfold catL
  conv => rhs; rw [← List.take_append_drop k ls, List.flatMap_append, List.length_append]
  omega

theorem cat_bound (ls : List (Value × List Mg)) (hn : ls.length ≤ 2) (h : ∀ x ∈ ls, x.2.length ≤ 1048576) : (catL ls).length ≤ 2097152 := by
  unfold catL
  match ls, hn, h with
  | [], _, _ => simp
  | [x], _, h =>
    have := h x (by simp)
    simp; omega
  | [x, y], _, h =>
    have := h x (by simp)
    have := h y (by simp)
    simp; omega

set_option maxHeartbeats 3200000 in
theorem concatM_any (c : Nat) (ls : List (Value × List Mg)) (w : World) (hn : ls.length ≤ 2) (hl : (catL ls).length ≤ 60) (hL : Lists w.heap.size w c ls) :
    Calls Try.prog 42 #[.slice (some ⟨c, 0, none⟩) ls.length ls.length] w fun e w' => ∃ v : Value, e = .returned v ∧ w'.ownsRow w.heap.size 38 15 v (catL ls).length ((catL ls).flatMap mgC) ∧ Below w.heap.size w w' := by
  obtain ⟨i0, hi, hz0, hz1, hz2⟩ := info_parts Try.infoMsg
  have HLS : Hid _ := hL
  clear hL
  go_enter Try.func42, Try.ntmps42
  go_wp2_with fail
  go_loopw [3, 11] (fun sz i wr => ∃ k : Nat, k ≤ ls.length ∧ i = .int .i64 k ∧ sz = .int .i64 (((catL (ls.take k)).length : Nat) : Int) ∧ wr = w) (fun _ i _ => ls.length - (intOf i).toNat)
  case atStart => exact ⟨0, Nat.zero_le _, rfl, rfl, rfl⟩
  case round =>
    obtain ⟨k, hk, rfl, rfl, hw⟩ := hrel
    have hw2 := hw.symm
    clear hw
    subst hw2
    by_cases hlt : k < ls.length
    · obtain ⟨x, hx⟩ : ∃ x, ls[k]? = some x := ⟨ls[k], List.getElem?_eq_getElem hlt⟩
      obtain ⟨h1, h2, h3⟩ := HLS.out.at_ k x hx
      obtain ⟨o, cap, hf⟩ := h2.form
      rw [hf] at h1
      have hst := cat_step ls k x hx
      have hle := cat_le ls (k + 1)
      have HST : Hid ((catL (ls.take (k + 1))).length = (catL (ls.take k)).length + x.2.length) := by rw [Hid, hst, List.length_append]
      have hle2 : (catL (ls.take k)).length + x.2.length ≤ 60 := by have := HST.out; omega
      have i0' : (0 : Int) ≤ (k : Int) := by omega
      have i1' : (k : Int) < (ls.length : Int) := by omega
      clear hst hle hx h2 hf
      generalize (catL (ls.take k)).length = A at *
      generalize x.2.length = C at *
      have w2 : IntKind.i64.wrap ((A : Int) + (C : Int)) = (A : Int) + (C : Int) := by rw [IntKind.wrap_i64]; omega
      have g2 : ¬ ((A : Int) + (C : Int) < 0) := by omega
      go_wp2_with fail
      go_roundw
      case rel => exact ⟨k + 1, by omega, by go_num, by rw [HST.out]; go_num, trivial⟩
      case measure => simp [intOf]; omega
    · obtain rfl : k = ls.length := by omega
      have hall : catL (ls.take ls.length) = catL ls := by rw [List.take_length]
      rw [hall]
      clear hall
      have hgr := fun w : World => growM_any (catL ls).length hl w
      have HLL : Hid ((catL ls).length ≤ 60) := hl
      generalize hLen : (catL ls).length = LL at hgr
      have HLen : Hid ((catL ls).length = LL) := hLen
      clear hLen hl
      go_wp2_with fail
      refine (hgr _).mono ?_
      rintro e w1 ⟨v1, rfl, ow1, b1⟩
      obtain ⟨o1, c1, rfl⟩ := own_slice ow1
      have ow1' : w1.ownsRow w.heap.size 38 15 (.slice o1 ([] : List Mg).length c1) ([] : List Mg).length (([] : List Mg).flatMap mgC) := ow1
      have HLS1 : Hid _ := HLS.out.below b1
      clear ow1 hgr
      go_wp2_with fail
      go_loopw [6, 27] (fun q i w3 => ∃ (k : Nat) (xs : List Mg) (o : Option Addr) (cp : Nat), k ≤ ls.length ∧ i = .int .i64 k ∧ q = .slice o xs.length cp ∧ xs = catL (ls.take k) ∧ w3.ownsRow w.heap.size 38 15 (.slice o xs.length cp) xs.length (xs.flatMap mgC) ∧ Below w.heap.size w w3) (fun _ i _ => ls.length - (intOf i).toNat)
      case atStart => exact ⟨0, [], o1, c1, by omega, rfl, rfl, rfl, ow1', b1⟩
      case round =>
        clear ow1' b1
        obtain ⟨k, xs, o, cp, hk, rfl, rfl, hxs, own, d⟩ := hrel
        by_cases hlt2 : k < ls.length
        · obtain ⟨x, hx⟩ : ∃ x, ls[k]? = some x := ⟨ls[k], List.getElem?_eq_getElem hlt2⟩
          obtain ⟨h1, h2, h3⟩ := (HLS.out.below d).at_ k x hx
          obtain ⟨ox, cx, hf⟩ := h2.form
          rw [hf] at h1 h2
          have hst := cat_step ls k x hx
          have hle := cat_le ls (k + 1)
          rw [hst, List.length_append, ← hxs] at hle
          have HX : Hid (xs ++ x.2 = catL (ls.take (k + 1))) := by rw [Hid, hst, hxs]
          have HSRC : Hid _ := flat_src15 mgC_len (by decide) h2
          obtain ⟨x1, x2⟩ := x
          simp only at h1 h2 hf HX HSRC hle
          have HLX : Hid ((x2.flatMap mgC).length = x2.length * 15) := flat_length mgC_len x2
          have HOX : Hid _ := msgs_one x2
          have hb60 : xs.length + x2.length ≤ 60 := by have := HLL.out; omega
          have HM : Hid (xs.length + x2.length ≤ maxLen) := by rw [Hid]; unfold maxLen; omega
          have HB : Hid ((xs.length + x2.length) * 136 ≤ 140737488355328) := by rw [Hid]; omega
          have i0' : (0 : Int) ≤ (k : Int) := by omega
          have i1' : (k : Int) < (ls.length : Int) := by omega
          have hsz := d.size
          have HOW : Hid _ := own
          have HBL : Hid (∀ q, (Value.slice o xs.length cp).ownBlock = some q → w.heap.size ≤ q) := fun q hq => (own.lt q hq).1
          clear hst hle hx h2 hf hxs own h3
          go_wp2_with (at_builtin; refine wpList_append_reads rfl _ _ 24 rfl w.heap.size 38 i0 (.agg #[.int .i64 0, .int .i64 0, .int .i64 0, .int .i64 0, .int .i64 0, .int .i64 0, .int .i64 0, .string ByteArray.empty, .string ByteArray.empty, .int .i64 0, .int .i64 0, .int .i64 0, .int .i64 0, .int .i64 0, .int .i64 0]) 15 136 Try.underlying24 hi hz0 hz1 hz2 rfl (by decide) (.slice o xs.length cp) xs.length (xs.flatMap mgC) rfl HOW.out ox x2.length cx (x2.flatMap mgC) rfl HLX.out HSRC.out HOX.out HM.out HB.out hsz ?_)
          intro v5 w5 own5 gr5 nil5
          have B5 : Below w.heap.size w w5 := d.grown gr5 hsz HBL.out
          have own6 : w5.ownsRow w.heap.size 38 15 v5 (xs ++ x2).length ((xs ++ x2).flatMap mgC) := by
            rw [List.length_append, List.flatMap_append]
            exact own5
          obtain ⟨o5, c5, rfl⟩ := own_slice own6
          have HF : Hid _ := And.intro own6 B5
          clear own5 own6 gr5 nil5 B5 d HOW HBL HSRC HLX HOX HM HB
          generalize hxx : xs ++ x2 = xx at *
          clear hxx
          go_wp2_with fail
          go_roundw
          case rel => exact ⟨k + 1, xx, o5, c5, by omega, by go_num, rfl, HX.out, HF.out.1, HF.out.2⟩
          case measure => simp [intOf]; omega
        · obtain rfl : k = ls.length := by omega
          have HX : Hid (xs = catL ls) := by rw [Hid, hxs, List.take_length]
          have HF : Hid _ := And.intro own d
          clear own d hxs
          go_wp2_with fail
          go_ret
          exact ⟨_, rfl, by rw [← HX.out]; exact HF.out.1, HF.out.2⟩
end Go.Proofs.Ytgabhnhfomekfaa

