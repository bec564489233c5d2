/-
  The laws' helpers on lists of texts: like or not; the text of a mark; marked; held.
-/
import Derived.Test.YtbjkbhchcoabcahRows1
import Derived.Test.YtbjkbhchcoabcahShow
namespace Go.Proofs.Ytbjkbhchcoabcah
open Go.RowKit
set_option linter.unusedVariables false
set_option maxRecDepth 100000

theorem text_eq (x y : ByteArray) : (x.toList == y.toList) = decide (x = y) := by
  rw [Bool.eq_iff_iff, beq_iff_eq, decide_eq_true_iff, ByteArray.toList_eq, ByteArray.toList_eq]
  constructor
  · intro h; apply ByteArray.ext; exact Array.toList_inj.1 h
  · intro h; rw [h]
theorem text_ne {x y : ByteArray} (h : (!x.toList == y.toList) = true) : x ≠ y := by rw [text_eq] at h; simpa using h
theorem text_same {x y : ByteArray} (h : (!x.toList == y.toList) = false) : x = y := by rw [text_eq] at h; simpa using h
theorem take_more {α : Type} (xs ys : List α) (k : Nat) (h1 : k < xs.length) (h2 : k < ys.length) (h : xs.take k = ys.take k) (e : xs[k] = ys[k]) : xs.take (k + 1) = ys.take (k + 1) := by
  rw [List.take_succ_eq_append_getElem h1, List.take_succ_eq_append_getElem h2, h, e]
theorem ne_at {α : Type} (xs ys : List α) (k : Nat) (h1 : k < xs.length) (h2 : k < ys.length) (e : xs[k] ≠ ys[k]) : ¬ xs = ys := by
  intro h; subst h; exact e rfl
theorem all_taken {α : Type} (xs ys : List α) (k : Nat) (h1 : ¬ k < xs.length) (h2 : xs.length = ys.length) (h : xs.take k = ys.take k) : xs = ys := by
  rw [List.take_of_length_le (by omega), List.take_of_length_le (by omega)] at h; exact h

set_option maxHeartbeats 800000 in
theorem eqTexts_any (v1 v2 : Value) (xs ys : List ByteArray) (w : World) (h1 : Reads w.heap.size w v1 (xs.map Value.string)) (h2 : Reads w.heap.size w v2 (ys.map Value.string)) :
    Calls Try.prog 11 #[v1, v2] w fun e w' => e = .returned (.bool (decide (xs = ys))) ∧ Below w.heap.size w w' := by
  obtain ⟨o1, cap1, rfl, m1, c1, -⟩ := h1
  obtain ⟨o2, cap2, rfl, m2, c2, -⟩ := h2
  simp only [List.length_map] at m1 m2 c1 c2 ⊢
  by_cases hlen : xs.length = ys.length
  · rw [← hlen]
    have C1 : Hid (∀ j u, (xs.map Value.string)[j]? = some u → ∃ g off, o1 = some ⟨g, off, none⟩ ∧ g < w.heap.size ∧ w.cell? ⟨g, off + j, none⟩ = some u) := c1
    have C2 : Hid (∀ j u, (ys.map Value.string)[j]? = some u → ∃ g off, o2 = some ⟨g, off, none⟩ ∧ g < w.heap.size ∧ w.cell? ⟨g, off + j, none⟩ = some u) := c2
    have HL : Hid (xs.length = ys.length) := hlen
    have hle : ys.length ≤ xs.length := by omega
    have hge : xs.length ≤ ys.length := by omega
    unfold maxLen at m1
    clear c1 c2 m2 hlen
    go_enter Try.func11, Try.ntmps11
    go_wp2
    go_loopw [5] (fun i wr => ∃ k : Nat, k ≤ xs.length ∧ i = .int .i64 k ∧ xs.take k = ys.take k ∧ Below w.heap.size w wr) (fun i _ => xs.length - (intOf i).toNat)
    case atStart => exact ⟨0, Nat.zero_le _, rfl, rfl, Below.refl _ _⟩
    case round =>
      obtain ⟨k, hk, rfl, htk, hb⟩ := hrel
      have HT : Hid (xs.take k = ys.take k) := htk
      clear htk
      by_cases hlt : k < xs.length
      · have hlt2 : k < ys.length := by omega
        obtain ⟨g1, of1, rfl, q1, cc1⟩ := C1.out k (.string xs[k]) (by simp [hlt])
        obtain ⟨g2, of2, rfl, q2, cc2⟩ := C2.out k (.string ys[k]) (by simp [hlt2])
        generalize hx : xs[k] = x at cc1
        generalize hy : ys[k] = y at cc2
        have HX : Hid (xs[k] = x) := hx
        have HY : Hid (ys[k] = y) := hy
        clear hx hy C1 C2
        have d1 := (hb.cell (p := ⟨g1, of1 + k, none⟩) q1).trans cc1
        have d2 := (hb.cell (p := ⟨g2, of2 + k, none⟩) q2).trans cc2
        clear cc1 cc2
        go_wp2
        go_quiet (fail)
        go_wp2
        · have hne : x ≠ y := text_ne (by assumption)
          rw [← HX.out, ← HY.out] at hne
          go_ret
          exact ⟨ret_bool (by simp [ne_at xs ys k hlt hlt2 hne]), ⟨hb.os, hb.tape, hb.output, hb.size, hb.block⟩⟩
        · have he : x = y := text_same (by assumption)
          rw [← HX.out, ← HY.out] at he
          go_roundw
          case rel => exact ⟨k + 1, by omega, by go_num, take_more xs ys k hlt hlt2 HT.out he, ⟨hb.os, hb.tape, hb.output, hb.size, hb.block⟩⟩
          case measure => simp [intOf]; omega
      · go_wp2
        go_ret
        exact ⟨ret_bool (by simp [all_taken xs ys k hlt HL.out HT.out]), hb⟩
  · have hn : ((xs.length : Int) != (ys.length : Int)) = true := by rw [bne_iff_ne]; omega
    have HX : Hid (decide (xs = ys) = false) := by rw [Hid, decide_eq_false_iff_not]; intro e; rw [e] at hlen; exact hlen rfl
    unfold maxLen at m1 m2
    clear hlen c1 c2
    go_enter Try.func11, Try.ntmps11
    go_wp2
    go_ret
    exact ⟨ret_bool HX.out.symm, Below.refl _ _⟩

def digs : Nat → Nat → ByteArray → ByteArray
  | 0, _, out => out
  | f + 1, k, out => if k = 0 then out else digs f (k / 10) (⟨#[48 + UInt8.ofNat (k % 10)]⟩ ++ out)
def markS (k : Int) : ByteArray := if k ≤ 0 then ⟨#[109, 48]⟩ else ⟨#[109]⟩ ++ digs (k.toNat + 1) k.toNat ⟨#[]⟩
theorem digs_step (f k : Nat) (out : ByteArray) (h : 0 < k) : digs (f + 1) k out = digs f (k / 10) (⟨#[48 + UInt8.ofNat (k % 10)]⟩ ++ out) := by
  simp only [digs]; rw [if_neg (by omega)]
theorem digs_end (f : Nat) (out : ByteArray) : digs (f + 1) 0 out = out := by simp [digs]

set_option maxHeartbeats 800000 in
theorem markText_any (k : Int) (w : World) (hk : -9223372036854775808 ≤ k ∧ k ≤ 1099511627776) :
    Calls Try.prog 36 #[.int .i64 k] w fun e w' => e = .returned (.string (markS k)) ∧ Below w.heap.size w w' := by
  by_cases h0 : k ≤ 0
  · have hv : markS k = ⟨#[109, 48]⟩ := by unfold markS; rw [if_pos h0]
    rw [hv]
    go_enter Try.func36, Try.ntmps36
    go_wp2
    go_ret
    exact ⟨rfl, Below.refl _ _⟩
  · have hv : markS k = ⟨#[109]⟩ ++ digs (k.toNat + 1) k.toNat ⟨#[]⟩ := by unfold markS; rw [if_neg h0]
    rw [hv]
    obtain ⟨K, rfl⟩ := Int.eq_ofNat_of_zero_le (show 0 ≤ k by omega)
    clear hv
    have hcv : ∀ (w : World) (a : Int), (convert 74 9 (.slice (some ⟨w.heap.size, 0, none⟩) 1 1)).run Try.prog (w.alloc (.cells #[.int .u8 a] 5)) = .ok (.string ⟨#[UInt8.ofNat a.toNat]⟩) (w.alloc (.cells #[.int .u8 a] 5)) := fun w a => conv_new w [a] [] 1
    rw [Int.toNat_natCast]
    go_enter Try.func36, Try.ntmps36
    go_wp2
    go_loopw [0, 3] (fun a o wr => ∃ (m f : Nat) (out : ByteArray), a = .int .i64 m ∧ o = .string out ∧ m ≤ f ∧ digs (K + 1) K ⟨#[]⟩ = digs (f + 1) m out ∧ out.size + m ≤ K ∧ Below w.heap.size w wr) (fun a _ _ => (intOf a).toNat)
    case atStart => exact ⟨K, K, ⟨#[]⟩, rfl, rfl, Nat.le_refl _, rfl, by show 0 + K ≤ K; omega, Below.refl _ _⟩
    case round =>
      obtain ⟨m, f, out, rfl, rfl, hf, hd, ho, hb⟩ := hrel
      have HD : Hid (digs (K + 1) K ⟨#[]⟩ = digs (f + 1) m out) := hd
      clear hd
      by_cases hpos : (0 : Int) < (m : Int)
      · obtain ⟨g, rfl⟩ : ∃ g, f = g + 1 := ⟨f - 1, by omega⟩
        have HN := digs_step (g + 1) m out (by omega)
        rw [← HD.out] at HN
        have HN' : Hid (digs (K + 1) K ⟨#[]⟩ = digs (g + 1) (m / 10) (⟨#[48 + UInt8.ofNat (m % 10)]⟩ ++ out)) := HN
        have hb2 := hb.alloc hb.size (.cells #[.int .u8 (48 + (m : Int) % 10)] 5)
        clear HN
        go_wp2
        go_roundw
        case rel => exact ⟨m / 10, g, _, by go_num, rfl, by omega, HN'.out, by rw [ByteArray.size_append]; show 1 + out.size + m / 10 ≤ K; omega, hb2⟩
        case measure => simp [intOf]; omega
      · obtain rfl : m = 0 := by omega
        have hsz : out.size ≤ 1099511627776 := by omega
        go_wp2
        go_ret
        rw [HD.out, digs_end]
        exact ⟨rfl, hb⟩

def marksL (k : Int) (n : Nat) : List ByteArray := (List.range n).map fun i : Nat => markS (k + (i : Int))
theorem marksL_length (k : Int) (n : Nat) : (marksL k n).length = n := by simp [marksL]
theorem marksL_get (k : Int) (n j : Nat) (h : j < n) : ((marksL k n).map Value.string)[j]? = some (.string (markS (k + j))) := by simp [marksL, h]
theorem marked_set (k : Int) (xs : List Value) (j : Nat) (h : j < xs.length) :
    ((marksL k j).map Value.string ++ xs.drop j).set j (.string (markS (k + j))) = (marksL k (j + 1)).map Value.string ++ xs.drop (j + 1) := by
  have hl : ((marksL k j).map Value.string).length = j := by simp [marksL]
  have hs : (marksL k (j + 1)).map Value.string = (marksL k j).map Value.string ++ [.string (markS (k + j))] := by simp [marksL, List.range_succ]
  rw [List.set_append_right _ _ (by omega), hl, Nat.sub_self, List.drop_eq_getElem_cons h, List.set_cons_zero, hs]
  exact (List.append_assoc _ [Value.string (markS (k + j))] _).symm
theorem marked_all (k : Int) (xs : List Value) (n : Nat) (h : xs.length = n) : (marksL k n).map Value.string ++ xs.drop n = (marksL k n).map Value.string := by
  rw [List.drop_of_length_le (by omega)]; simp

set_option maxHeartbeats 800000 in
theorem marked_any (g cap n base : Nat) (k : Int) (xs : List Value) (w : World) (hk : 0 ≤ k) (hn : k + n ≤ 1099511627776) (own : w.ownsRow base 9 1 (.slice (some ⟨g, 0, none⟩) n cap) n xs) :
    Calls Try.prog 12 #[.slice (some ⟨g, 0, none⟩) n cap, .int .i64 k] w fun e w' => e = .returned (.int .i64 (k + n)) ∧ w'.ownsRow base 9 1 (.slice (some ⟨g, 0, none⟩) n cap) n ((marksL k n).map Value.string) ∧ Upto g w w' := by
  have hx : xs.length = n := by simpa using own.1
  have hg := own.lt g rfl
  go_enter Try.func12, Try.ntmps12
  go_wp2
  go_loopw [1, 5] (fun q i wr => ∃ j : Nat, j ≤ n ∧ i = .int .i64 j ∧ q = .int .i64 (k + j) ∧ wr.ownsRow base 9 1 (.slice (some ⟨g, 0, none⟩) n cap) n ((marksL k j).map Value.string ++ xs.drop j) ∧ Upto g w wr) (fun _ i _ => n - (intOf i).toNat)
  case atStart => exact ⟨0, Nat.zero_le _, rfl, by simp, by simpa [marksL] using own, Upto.refl _ _⟩
  case round =>
    obtain ⟨j, hj, rfl, rfl, ow, u⟩ := hrel
    clear own
    by_cases hlt : j < n
    · go_wp2_with fail
      refine (markText_any (k + j) _ (by omega)).mono ?_
      rintro e w1 ⟨rfl, b1⟩
      have ow1 := owns_below ow b1
      have u1 := u.below b1
      have hc0 := ow1.cellAt j (by omega)
      have hf := ow1.frozenAt j
      have hst := (ow1.stored j (.string (markS (k + j)))).1
      rw [marked_set k xs j (by omega)] at hst
      have HST : Hid ((w1.setCell ⟨g, j, none⟩ (.string (markS (k + j)))).ownsRow base 9 1 (.slice (some ⟨g, 0, none⟩) n cap) n ((marksL k (j + 1)).map Value.string ++ xs.drop (j + 1))) := hst
      obtain ⟨u0, hu0⟩ : ∃ u0, ((marksL k j).map Value.string ++ xs.drop j)[j]? = some u0 := ⟨_, List.getElem?_eq_getElem (by simp [marksL_length]; omega)⟩
      have hc : w1.cell? ⟨g, j, none⟩ = some u0 := hc0.trans hu0
      have u2 : Upto g w (w1.setCell ⟨g, j, none⟩ (.string (markS (k + j)))) := u1.setCell _ (.inl rfl) _
      generalize markS (k + j) = tx at HST u2 ⊢
      clear ow hc0 hu0 hst ow1 u1
      go_wp2_with fail
      go_roundw
      case rel => exact ⟨j + 1, by omega, by go_num, by go_num, HST.out, u2⟩
      case measure => simp [intOf]; omega
    · obtain rfl : j = n := by omega
      rw [marked_all k xs j hx] at ow
      go_wp2_with fail
      go_ret
      exact ⟨rfl, ow, u⟩

theorem markedRow_any (v : Value) (n base : Nat) (k : Int) (xs : List Value) (w : World) (hk : 0 ≤ k) (hn : k + n ≤ 1099511627776) (hbase : base ≤ w.heap.size) (own : w.ownsRow base 9 1 v n xs) :
    Calls Try.prog 12 #[v, .int .i64 k] w fun e w' => e = .returned (.int .i64 (k + n)) ∧ w'.ownsRow base 9 1 v n ((marksL k n).map Value.string) ∧ Below base w w' := by
  rcases own.2 with ⟨rfl, rfl⟩ | ⟨g, cap, cur, rfl, hg, _⟩
  · go_enter Try.func12, Try.ntmps12
    go_wp2
    refine wp_loop_rounds 1 ?_
    rw [rounds_succ]
    go_wp2
    go_ret
    exact ⟨ret_int (by simp), World.ownsRow_nil _ _ _ _, Below.refl _ _⟩
  · refine (marked_any g cap n base k xs w hk hn own).mono ?_
    rintro e w' ⟨he, ho, hu⟩
    exact ⟨he, ho, hu.toBelow hbase hg⟩

set_option maxHeartbeats 800000 in
theorem held_any (v : Value) (n : Nat) (k : Int) (w : World) (hk : 0 ≤ k) (hn : k + n ≤ 1099511627776) (hr : Reads w.heap.size w v ((marksL k n).map Value.string)) :
    Calls Try.prog 13 #[v, .int .i64 k] w fun e w' => e = .returned (.int .i64 (k + n)) ∧ Below w.heap.size w w' := by
  obtain ⟨o, cap, rfl, hm, hc, -⟩ := hr
  have hl : ((marksL k n).map Value.string).length = n := by simp [marksL_length]
  rw [hl] at hm ⊢
  have HC : Hid (∀ j u, ((marksL k n).map Value.string)[j]? = some u → ∃ g off, o = some ⟨g, off, none⟩ ∧ g < w.heap.size ∧ w.cell? ⟨g, off + j, none⟩ = some u) := hc
  clear hc hl hm
  go_enter Try.func13, Try.ntmps13
  go_wp2
  go_loopw [1, 5] (fun q i wr => ∃ j : Nat, j ≤ n ∧ i = .int .i64 j ∧ q = .int .i64 (k + j) ∧ Below w.heap.size w wr) (fun _ i _ => n - (intOf i).toNat)
  case atStart => exact ⟨0, Nat.zero_le _, rfl, by simp, Below.refl _ _⟩
  case round =>
    obtain ⟨j, hj, rfl, rfl, hb⟩ := hrel
    by_cases hlt : j < n
    · obtain ⟨g, off, rfl, hg, hx⟩ := HC.out j _ (marksL_get k n j hlt)
      have hx1 : wr.cell? ⟨g, off + j, none⟩ = some (.string (markS (k + j))) := (hb.cell (p := ⟨g, off + j, none⟩) hg).trans hx
      have hcell := BelowOf.cell hx1 (Nat.lt_of_lt_of_le hg hb.size)
      have hne := BelowOf.any wr
      have g1 : (0 : Int) ≤ (j : Int) := by omega
      have g2 : (j : Int) < (n : Int) := by omega
      clear HC hx hx1
      go_wp2_with fail
      refine wp_region_of (by kernel_rfl) (by kernel_rfl) ?_
      repeat (go_big_quiet_step ((first | (go_at_call 36; exact calls_of (markText_any (k + j) _ (by omega))) | rfl)))
      refine wpQuiet_nil ?_
      rintro _ ⟨⟨w1, b1⟩, rfl⟩
      clear hcell hne
      go_wp2_with fail
      go_roundw
      case rel => exact ⟨j + 1, by omega, by go_num, by go_num, hb.trans (b1.mono hb.size)⟩
      case measure => simp [intOf]; omega
    · obtain rfl : j = n := by omega
      go_wp2_with fail
      go_ret
      exact ⟨rfl, hb⟩

end Go.Proofs.Ytbjkbhchcoabcah
