/-
  Chapter 3: the specification's Fed at every argument.
-/
import Derived.Test.YtbjkbhchcoabcahRows1
import Derived.Test.YtbjkbhchcoabcahFeed
import Derived.Test.YtbjkbhchcoabcahFeedM
import Derived.Test.YtbjkbhchcoabcahFrame3
namespace Go.Proofs.Ytbjkbhchcoabcah
open Go.RowKit
set_option linter.unusedVariables false
set_option maxRecDepth 100000

/-- What Fed comes to: the rest and how many are skipped; the texts. -/
def fed (r : ByteArray) (k : Int) (b : ByteArray) : (ByteArray × Int) × List ByteArray :=
  if feedOk r k = true ∧ b.size ≤ 1000 then
    ((Fr.rest (r ++ b) (Fr.fedF (r ++ b) ((r ++ b).size + 1) 0 k).2.1, (Fr.fedF (r ++ b) ((r ++ b).size + 1) 0 k).2.2), (Fr.fedF (r ++ b) ((r ++ b).size + 1) 0 k).1)
  else ((ByteArray.empty, 0), [])
theorem fed_no (r : ByteArray) (k : Int) (b : ByteArray) (h : feedOk r k = false ∨ 1000 < b.size) : fed r k b = ((ByteArray.empty, 0), []) := by
  unfold fed
  rw [if_neg]
  rintro ⟨h1, h2⟩
  rcases h with h | h
  · rw [h] at h1; cases h1
  · omega
theorem fed_yes (r : ByteArray) (k : Int) (b : ByteArray) (h1 : feedOk r k = true) (h2 : b.size ≤ 1000) (xs : List ByteArray) (p : Nat) (k' : Int) (h : Fr.fedF (r ++ b) ((r ++ b).size + 1) 0 k = (xs, p, k')) :
    fed r k b = ((Fr.rest (r ++ b) p, k'), xs) := by
  unfold fed
  rw [if_pos ⟨h1, h2⟩, h]
theorem feedOk_bd (r : ByteArray) (k : Int) (h : feedOk r k = true) : r.size ≤ 63 ∧ 0 ≤ k ∧ k ≤ 1000000 ∧ Fr.frEnd r 0 = -2 := by
  simp only [feedOk, Bool.and_eq_true, decide_eq_true_eq, beq_iff_eq] at h
  omega

theorem l1Min_any (a b : Int) (w : World) :
    Calls Try.prog 39 #[.int .i64 a, .int .i64 b] w fun e w' => e = .returned (.int .i64 (min a b)) ∧ w' = w := by
  by_cases h : a < b
  · go_enter Try.func39, Try.ntmps39
    go_wp2
    go_ret
    exact ⟨ret_int (by show a = min a b; omega), rfl⟩
  · go_enter Try.func39, Try.ntmps39
    go_wp2
    go_ret
    exact ⟨ret_int (by show b = min a b; omega), rfl⟩

/-- The memory that Fed begins with: the Feed's own cells, the answer's, and a row of no text. -/
theorem fed_start (w : World) (r : ByteArray) (k : Int) : ∃ W0, W0 = ((w.alloc (.cells #[.string r, .int .i64 k] 32)).alloc (.cells #[.string ⟨#[]⟩, .int .i64 0] 32)).alloc (.cells #[] 9) ∧
    W0.heap[w.heap.size]? = some (.cells #[.string r, .int .i64 k] 32 (0, 0)) ∧ W0.heap[w.heap.size + 1]? = some (.cells #[.string ⟨#[]⟩, .int .i64 0] 32 (0, 0)) ∧
    W0.ownsRow (w.heap.size + 1 + 1) 9 1 (.slice (some ⟨w.heap.size + 1 + 1, 0, none⟩) 0 0) 0 [] ∧ Below w.heap.size w W0 ∧ W0.heap.size = w.heap.size + 1 + 1 + 1 := by
  have s1 : (w.alloc (.cells #[.string r, .int .i64 k] 32)).heap.size = w.heap.size + 1 := by simp
  have s2 : ((w.alloc (.cells #[.string r, .int .i64 k] 32)).alloc (.cells #[.string ⟨#[]⟩, .int .i64 0] 32)).heap.size = w.heap.size + 1 + 1 := by simp
  have a1 := heap_alloc_new w (.cells #[.string r, .int .i64 k] 32)
  have a2 := heap_alloc_new (w.alloc (.cells #[.string r, .int .i64 k] 32)) (.cells #[.string ⟨#[]⟩, .int .i64 0] 32)
  rw [s1] at a2
  have own0 := World.ownsRow_lit (base := w.heap.size + 1 + 1) (size := 1) (e := 9) ((w.alloc (.cells #[.string r, .int .i64 k] 32)).alloc (.cells #[.string ⟨#[]⟩, .int .i64 0] 32)) #[] 0 (by rw [s2]; exact Nat.le_refl _) (Nat.zero_le _) rfl
  rw [s2] at own0
  refine ⟨_, rfl, ?_, ?_, own0, ?_, by simp⟩
  · exact ((Below.heap_alloc _ _ _ (by rw [s2]; omega)).trans (Below.heap_alloc _ _ _ (by rw [s1]; omega))).trans a1
  · exact (Below.heap_alloc _ _ _ (by rw [s2]; omega)).trans a2
  · exact (((Below.refl _ w).alloc (Nat.le_refl _) _).alloc (by simp) _).alloc (by simp; omega) _

set_option maxHeartbeats 1600000 in
theorem specFed_no (r b : ByteArray) (k : Int) (w : World) (hr : r.size ≤ 1099511627776) (hb : b.size ≤ 1099511627776) (hno : feedOk r k = false ∨ 1000 < b.size) :
    Calls Try.prog 18 #[.agg #[.string r, .int .i64 k], .string b] w fun e w' => ∃ v : Value, e = .returned (.tuple #[.agg #[.string ByteArray.empty, .int .i64 0], v]) ∧ w'.ownsRow w.heap.size 9 1 v 0 [] ∧ v ≠ .slice none 0 0 ∧ Below w.heap.size w w' := by
  obtain ⟨W0, hW0, c0, c1, own0, bd0, sz0⟩ := fed_start w r k
  have HW0 : Hid (W0 = _) := hW0
  clear hW0
  go_enter Try.func18, Try.ntmps18
  go_wp2_with fail
  rw [← HW0.out]
  clear HW0
  refine (specFeedOk_any r k _ hr).mono ?_
  rintro e w1 ⟨rfl, b1⟩
  have k1 : w1.heap[w.heap.size + 1]? = some (.cells #[.string ⟨#[]⟩, .int .i64 0] 32 (0, 0)) := (b1.block _ (by omega)).trans c1
  have own1 := owns_below own0 b1
  have q0 := at_cell k1 0
  have q1 := at_cell k1 1
  have f0 := at_open k1 0
  have f1 := at_open k1 1
  obtain ⟨s1, u1⟩ := set_two k1 (.string ⟨#[]⟩) (.int .i64 0)
  have hfin : w.heap.size ≤ w1.heap.size ∧ Below w.heap.size w ((w1.setCell ⟨w.heap.size + 1, 0, none⟩ (.string ⟨#[]⟩)).setCell ⟨w.heap.size + 1, 1, none⟩ (.int .i64 0)) := by
    have := b1.size
    exact ⟨by omega, (bd0.trans (b1.mono bd0.size)).trans (u1.toBelow (by omega) (by omega))⟩
  have own2 := owns_mono (ownsRow_upto own1 u1 (by omega)) (show w.heap.size ≤ w.heap.size + 1 + 1 by omega)
  have HS : Hid _ := And.intro s1 own2
  clear s1 u1 own2 own1 own0 c0 c1 k1 b1
  cases hok : feedOk r k
  · go_wp2_with fail
    exact bodyPost_ret (v := .tuple #[.agg #[.string ByteArray.empty, .int .i64 0], .slice (some ⟨w.heap.size + 1 + 1, 0, none⟩) 0 0]) (by simp [results, Try.results18, go_sem, at_cell HS.out.1]; rfl) rfl ⟨_, rfl, HS.out.2, by simp, hfin.2⟩
  · have hbig : (1000 : Int) < (b.size : Int) := by
      rcases hno with h | h
      · rw [hok] at h; cases h
      · omega
    go_wp2_with fail
    exact bodyPost_ret (v := .tuple #[.agg #[.string ByteArray.empty, .int .i64 0], .slice (some ⟨w.heap.size + 1 + 1, 0, none⟩) 0 0]) (by simp [results, Try.results18, go_sem, at_cell HS.out.1]; rfl) rfl ⟨_, rfl, HS.out.2, by simp, hfin.2⟩

set_option maxHeartbeats 3200000 in
theorem specFed_yes (r b : ByteArray) (k : Int) (w : World) (hb : b.size ≤ 1000) (hok : feedOk r k = true) :
    Calls Try.prog 18 #[.agg #[.string r, .int .i64 k], .string b] w fun e w' => ∃ v : Value, e = .returned (.tuple #[.agg #[.string (fed r k b).1.1, .int .i64 (fed r k b).1.2], v]) ∧ w'.ownsRow w.heap.size 9 1 v (fed r k b).2.length ((fed r k b).2.map Value.string) ∧ v ≠ .slice none 0 0 ∧ Below w.heap.size w w' := by
  obtain ⟨i0, hi, hz0, hz1, hz2⟩ := info_parts Try.infoStr
  obtain ⟨hr, hk0, hk1, _⟩ := feedOk_bd r k hok
  obtain ⟨W0, hW0, c0, c1, own0, bd0, sz0⟩ := fed_start w r k
  have HW0 : Hid (W0 = _) := hW0
  clear hW0
  have hs : (r ++ b).size = r.size + b.size := ByteArray.size_append
  have HF : Hid (∀ xs p k', Fr.fedF (r ++ b) ((r ++ b).size + 1) 0 k = (xs, p, k') → fed r k b = ((Fr.rest (r ++ b) p, k'), xs)) := fun xs p k' h => fed_yes r k b hok hb xs p k' h
  go_enter Try.func18, Try.ntmps18
  go_wp2_with fail
  rw [← HW0.out]
  clear HW0
  refine (specFeedOk_any r k _ (by omega)).mono ?_
  rintro e w1 ⟨rfl, b1⟩
  rw [hok]
  have k0 : w1.heap[w.heap.size]? = some (.cells #[.string r, .int .i64 k] 32 (0, 0)) := (b1.block _ (by omega)).trans c0
  have k1 : w1.heap[w.heap.size + 1]? = some (.cells #[.string ⟨#[]⟩, .int .i64 0] 32 (0, 0)) := (b1.block _ (by omega)).trans c1
  have own1 := owns_below own0 b1
  have p0 := at_cell k0 0
  have p1 := at_cell k0 1
  have bd1 := bd0.trans (b1.mono bd0.size)
  have sz1 : w.heap.size + 1 + 1 + 1 ≤ w1.heap.size := by have := b1.size; omega
  clear c0 c1 own0 k0 bd0 sz0 b1
  go_wp2_with fail
  generalize r ++ b = s at *
  have hs2 : s.size ≤ 1063 := by omega
  clear hs
  go_loopw [6, 8, 9] (fun v q a wr => ∃ (p : Nat) (xs : List ByteArray) (k' : Int), a = .int .i64 p ∧ q = .int .i64 k' ∧ Fr.FedUpon s k xs p k' ∧ wr.ownsRow (w.heap.size + 1 + 1) 9 1 v xs.length (xs.map Value.string) ∧ v ≠ .slice none 0 0 ∧ Below (w.heap.size + 1 + 1) w1 wr) (fun _ _ a _ => s.size - (intOf a).toNat)
  case atStart => exact ⟨0, [], k, rfl, rfl, Fr.fedUpon_start s k hk0 hk1, own1, by simp, Below.refl _ _⟩
  case round =>
    obtain ⟨p, xs, k', rfl, rfl, hup, own, hnv, hbw⟩ := hrel
    have HNV : Hid (u6 ≠ Value.slice none 0 0) := hnv
    clear hnv
    have HU : Hid (Fr.FedUpon s k xs p k') := hup
    have hle := Fr.fedUpon_le s k k' xs p hup
    clear hup
    go_wp2_with fail
    refine (specFrame_any s p _ (by omega)).mono ?_
    rintro e w2 ⟨rfl, b2⟩
    have hbd := Fr.frEnd_bd s p
    have own2 := owns_below own b2
    have hb2 := hbw.trans (b2.mono (show w.heap.size + 1 + 1 ≤ _ by have := hbw.size; omega))
    clear own
    rcases Fr.three s p with he | he | he
    · have HN : Hid (Fr.FedUpon s k (xs ++ [Fr.frText s p]) (Fr.frEnd s p).toNat k') := Fr.fedUpon_text s k k' xs p HU.out he
      obtain ⟨q, hq⟩ := Int.eq_ofNat_of_zero_le he
      have hsz : w.heap.size + 1 + 1 ≤ w2.heap.size := by have := hb2.size; omega
      generalize Fr.frText s p = tx at HN ⊢
      rw [hq] at HN hbd he ⊢
      clear hq
      go_wp2_with (at_builtin; refine wpList_append_own _ rfl _ _ 22 rfl (w.heap.size + 1 + 1) 9 i0 (.string ByteArray.empty) 1 16 Try.underlying22 hi hz0 hz1 hz2 rfl (by decide) _ _ _ rfl (own2.alloc _) ⟨w2.heap.size, 0, none⟩ 1 1 [.string tx] rfl rfl ?c1 ?c2 ?c3 ?c4 ?c5 ?_)
      case c1 => exact new_one _ _ _
      case c2 => intro u hu; simp at hu; subst hu; rfl
      case c3 => unfold maxLen; omega
      case c4 => omega
      case c5 => simp; omega
      intro v' w3 hown' hgrow hnil
      have HNV2 : Hid (v' ≠ Value.slice none 0 0) := hnil
      clear hnil
      have hrow := fun q hq => (own2.lt q hq).1
      have hb3 : Below (w.heap.size + 1 + 1) w1 w3 := (hb2.alloc hsz _).grown hgrow (by simp; omega) hrow
      clear own2 hgrow hrow
      go_wp2_with fail
      go_roundw
      case rel => exact ⟨q, xs ++ [tx], k', rfl, rfl, HN.out, by simpa using hown', HNV2.out, hb3⟩
      case measure => simp [intOf]; omega
    · have HN : Hid (Fr.FedUpon s k xs (p + 1) (min 1000000 (k' + 1))) := Fr.fedUpon_bad s k k' xs p HU.out he
      have hlt := Fr.bad_lt s p hle.1 he
      rw [he]
      clear hbd he
      go_wp2_with fail
      refine (l1Min_any _ _ _).mono ?_
      rintro e w3 ⟨rfl, rfl⟩
      go_wp2_with fail
      go_roundw
      case rel => exact ⟨p + 1, xs, _, by go_num, rfl, HN.out, own2, HNV.out, hb2⟩
      case measure => simp [intOf]; omega
    · have HE : Hid (fed r k b = ((Fr.rest s p, k'), xs)) := HF.out xs p k' (Fr.fedUpon_end s k k' xs p HU.out he)
      rw [he]
      have hsl : s.extract p s.size = Fr.rest s p := rfl
      have hp0 : (0 : Int) ≤ (p : Int) := by omega
      have hp1 : (p : Int) ≤ (s.size : Int) := by omega
      generalize Fr.rest s p = R at hsl HE
      have k2 : w2.heap[w.heap.size + 1]? = some (.cells #[.string ⟨#[]⟩, .int .i64 0] 32 (0, 0)) := (hb2.block _ (by omega)).trans k1
      have q0 := at_cell k2 0
      have q1 := at_cell k2 1
      have f0 := at_open k2 0
      have f1 := at_open k2 1
      obtain ⟨s1, u1⟩ := set_two k2 (.string R) (.int .i64 k')
      have hsz : w.heap.size + 1 + 1 ≤ w2.heap.size := by have := hb2.size; omega
      have own3 := owns_mono (ownsRow_upto own2 u1 (by omega)) (show w.heap.size ≤ w.heap.size + 1 + 1 by omega)
      have hfin : Below w.heap.size w ((w2.setCell ⟨w.heap.size + 1, 0, none⟩ (.string R)).setCell ⟨w.heap.size + 1, 1, none⟩ (.int .i64 k')) := (bd1.trans (Below.mono hb2 (show w.heap.size ≤ w.heap.size + 1 + 1 by omega))).trans (u1.toBelow (by omega) (by omega))
      have HS : Hid _ := And.intro s1 (And.intro own3 hfin)
      clear s1 u1 own3 own2 hfin k2 hb2 b2 hbw own1 bd1 k1 p0 p1 HU hbd he
      go_wp2_with fail
      refine bodyPost_ret (v := .tuple #[.agg #[.string R, .int .i64 k'], u6]) (by simp [results, Try.results18, go_sem, at_cell HS.out.1]) rfl ⟨u6, ?_, ?_, HNV.out, HS.out.2.2⟩
      · rw [HE.out]
      · rw [HE.out]
        exact HS.out.2.1

theorem specFed_any (r b : ByteArray) (k : Int) (w : World) (hr : r.size ≤ 1099511627776) (hb : b.size ≤ 1099511627776) :
    Calls Try.prog 18 #[.agg #[.string r, .int .i64 k], .string b] w fun e w' => ∃ v : Value, e = .returned (.tuple #[.agg #[.string (fed r k b).1.1, .int .i64 (fed r k b).1.2], v]) ∧ w'.ownsRow w.heap.size 9 1 v (fed r k b).2.length ((fed r k b).2.map Value.string) ∧ v ≠ .slice none 0 0 ∧ Below w.heap.size w w' := by
  by_cases h : feedOk r k = true ∧ b.size ≤ 1000
  · exact specFed_yes r b k w h.2 h.1
  · have hno : feedOk r k = false ∨ 1000 < b.size := by
      cases hk : feedOk r k
      · exact .inl rfl
      · right
        rcases Nat.lt_or_ge 1000 b.size with q | q
        · exact q
        · exact absurd ⟨hk, q⟩ h
    rw [fed_no r k b hno]
    exact specFed_no r b k w hr hb hno

end Go.Proofs.Ytbjkbhchcoabcah
