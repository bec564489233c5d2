/-
  Chapter 3's draws: what is fed in pieces (DrawFedAll).
-/
import Derived.Test.YtbjkbhchcoabcaaDrawFeed
import Derived.Test.YtbjkbhchcoabcaaImFedAll
namespace Go.Proofs.Ytbjkbhchcoabcaa
open Go.RowKit
set_option linter.unusedVariables false
set_option maxRecDepth 100000

set_option maxHeartbeats 3200000 in
theorem drawFedAll_any (x : Option Addr) (len cap : Nat) (w : World) (hs : Src w w.heap.size x len) :
    Calls Try.prog 32 #[.slice x len cap] w fun e w' => ∃ (r : ByteArray) (k : Int) (v : Value) (ps : List ByteArray), e = .returned (.tuple #[.agg #[.string r, .int .i64 k], v]) ∧ (r.size ≤ 64 ∧ -1 ≤ k ∧ k ≤ 1000001 ∧ ps.length ≤ 42 ∧ ∀ p ∈ ps, p.size ≤ 204) ∧ w'.ownsRow w.heap.size 9 1 v ps.length (ps.map Value.string) ∧ v ≠ .slice none 0 0 ∧ Below w.heap.size w w' := by
  obtain ⟨i0, hi, hz0, hz1, hz2⟩ := info_parts Try.infoStr
  obtain ⟨W0, hW0⟩ : ∃ W0, W0 = w.alloc (.cells #[.string ⟨#[]⟩, .int .i64 0] 45) := ⟨_, rfl⟩
  have kR : W0.heap[w.heap.size]? = some (.cells #[.string ⟨#[]⟩, .int .i64 0] 45 (0, 0)) := by rw [hW0]; exact heap_alloc_new w _
  have d : Below w.heap.size w W0 := by rw [hW0]; exact bw_alloc (Below.refl _ _)
  have sR : w.heap.size < W0.heap.size := by rw [hW0]; simp
  have hs0 : Src W0 W0.heap.size x len := (hs.below d).mono d.size
  have HW0 : Hid (W0 = _) := hW0
  clear hW0
  go_enter Try.func32, Try.ntmps32
  go_wp2_with fail
  rw [← HW0.out]
  clear HW0
  refine (new_any x len cap _ hs0).mono ?_
  rintro e w1 ⟨rfl, b1, k1⟩
  replace kR := (b1.block _ sR).trans kR
  have sc := k1.lt
  have hne : w.heap.size ≠ W0.heap.size := by omega
  have hRc : w.heap.size < W0.heap.size := sR
  replace d := bw_call d b1
  clear b1 hs0
  generalize W0.heap.size = c at *
  go_wp2_with fail
  refine (draw3_any _ x len cap _ k1).mono ?_
  rintro e w2 ⟨r, k, rfl, hr, hk0, hk1, u2, k2⟩
  replace kR := (u2.block _ (by omega) hne).trans kR
  replace d := d.trans (u2.toBelow (by omega) (by omega))
  have sc2 := k2.lt
  clear u2 k1
  -- the Feed's box
  have kF := heap_alloc_new w2 (.cells #[.string r, .int .i64 k] 45)
  have bF : Below w2.heap.size w2 (w2.alloc (.cells #[.string r, .int .i64 k] 45)) := bw_alloc (Below.refl _ _)
  have sF : w2.heap.size < (w2.alloc (.cells #[.string r, .int .i64 k] 45)).heap.size := by simp
  replace kR := (bF.block _ (by omega)).trans kR
  replace d := bw_call d bF
  have k3 := k2.below bF
  clear k2 bF
  go_wp2_with fail
  generalize w2.alloc (.cells #[.string r, .int .i64 k] 45) = W3 at *
  refine (draw2_any _ x len cap _ k3).mono ?_
  rintro e w4 ⟨s1, rfl, hs1, u4, k4⟩
  replace kR := (u4.block _ (by omega) hne).trans kR
  replace kF := (u4.block _ sF (by omega)).trans kF
  replace d := d.trans (u4.toBelow (by omega) (by omega))
  replace sF := Nat.lt_of_lt_of_le sF u4.size
  clear u4 k3 sR sc
  go_wp2_with fail
  refine (draw2_any _ x len cap _ k4).mono ?_
  rintro e w5 ⟨s2, rfl, hs2, u5, k5⟩
  replace kR := (u5.block _ (by omega) hne).trans kR
  replace kF := (u5.block _ sF (by omega)).trans kF
  replace d := d.trans (u5.toBelow (by omega) (by omega))
  replace sF := Nat.lt_of_lt_of_le sF u5.size
  clear u5 k4
  have hss : (s1 ++ s2).size = s1.size + s2.size := ByteArray.size_append
  go_wp2_with fail
  generalize s1 ++ s2 = s at *
  have hsz : s.size ≤ 204 := by omega
  clear hss hs1 hs2
  have own0 := World.ownsRow_lit (base := w5.heap.size) (size := 1) (e := 9) w5 #[] 0 (Nat.le_refl _) (Nat.zero_le _) rfl
  have k6 := k5.alloc (.cells #[] 9)
  have kR6 := (Below.heap_alloc w5 (.cells #[] 9) _ (show w.heap.size < w5.heap.size by omega)).trans kR
  have kF6 := (Below.heap_alloc w5 (.cells #[] 9) _ (show w2.heap.size < w5.heap.size by omega)).trans kF
  have d6 := d.alloc d.size (.cells #[] 9)
  have sz6 : w5.heap.size ≤ (w5.alloc (.cells #[] 9)).heap.size := by simp
  clear k5 kR kF d
  generalize w5.alloc (.cells #[] 9) = W6 at *
  -- the answer, out of the Feed's box
  have fin : ∀ (W : World) (v : Value) (ps : List ByteArray), W.heap[w.heap.size]? = some (.cells #[.string ⟨#[]⟩, .int .i64 0] 45 (0, 0)) → Below w.heap.size w W → W.ownsRow w5.heap.size 9 1 v ps.length (ps.map Value.string) → w5.heap.size ≤ W.heap.size →
      ((W.setCell ⟨w.heap.size, 0, none⟩ (.string r)).setCell ⟨w.heap.size, 1, none⟩ (.int .i64 k)).heap[w.heap.size]? = some (.cells #[.string r, .int .i64 k] 45 (0, 0)) ∧
      ((W.setCell ⟨w.heap.size, 0, none⟩ (.string r)).setCell ⟨w.heap.size, 1, none⟩ (.int .i64 k)).ownsRow w.heap.size 9 1 v ps.length (ps.map Value.string) ∧ Below w.heap.size w ((W.setCell ⟨w.heap.size, 0, none⟩ (.string r)).setCell ⟨w.heap.size, 1, none⟩ (.int .i64 k)) := fun W v ps h1 h2 h3 h4 => by
    obtain ⟨s1, u1⟩ := set_two h1 (.string r) (.int .i64 k)
    exact ⟨s1, owns_mono (ownsRow_upto h3 u1 (by omega)) (by omega), h2.trans (u1.toBelow h2.size (Nat.le_refl _))⟩
  have HFin : Hid _ := fin
  clear fin
  go_loopw [6, 7] (fun q v wr => ∃ (t : ByteArray) (ps : List ByteArray), q = .string t ∧ t.size ≤ 204 ∧ ps.length ≤ 40 ∧ (∀ p ∈ ps, p.size ≤ 204) ∧ wr.ownsRow w5.heap.size 9 1 v ps.length (ps.map Value.string) ∧ v ≠ .slice none 0 0 ∧ Below w.heap.size w wr ∧ Cur wr c x len cap ∧ wr.heap[w.heap.size]? = some (.cells #[.string ⟨#[]⟩, .int .i64 0] 45 (0, 0)) ∧ wr.heap[w2.heap.size]? = some (.cells #[.string r, .int .i64 k] 45 (0, 0)) ∧ w5.heap.size ≤ wr.heap.size) (fun q _ _ => match q with | .string t => t.size | _ => 0)
  case atStart => exact ⟨s, [], rfl, hsz, by simp, by simp, own0, by simp, d6, k6, kR6, kF6, sz6⟩
  case round =>
    obtain ⟨t, ps, rfl, ht, hl, hall, own, hnv, hbw, kc, kR, kF, hsw⟩ := hrel
    have HNV : Hid (u7 ≠ Value.slice none 0 0) := hnv
    have HALL : Hid (∀ p ∈ ps, p.size ≤ 204) := hall
    clear hnv hall own0 k6 kR6 kF6 d6 sz6
    cases he : t.toList.isEmpty
    · -- one piece more
      have ht0 : 0 < t.size := by
        rcases Nat.eq_zero_or_pos t.size with h | h
        · rw [ByteArray.toList_eq, List.isEmpty_eq_false_iff] at he
          exact absurd (List.eq_nil_of_length_eq_zero (by rw [Fr.list_size]; exact h)) he
        · exact h
      go_wp2_with fail
      refine (below_any _ x len cap 5 _ (by omega) kc).mono ?_
      rintro e w7 ⟨m, rfl, hm, u7', kc7⟩
      have hm0 : 0 ≤ m := hm.1
      have hm5 : m < 5 := hm.2.1 (by omega)
      have own7 := ownsRow_upto own u7' (by omega)
      have kR7 := (u7'.block _ (by omega) hne).trans kR
      have kF7 := (u7'.block _ (by omega) (by omega)).trans kF
      have bw7 := hbw.trans (u7'.toBelow (by omega) (by omega))
      have sz7 := Nat.le_trans hsw u7'.size
      clear u7' own kR kF hbw hm kc
      go_wp2_with fail
      refine (l1Min_any _ _ _).mono ?_
      rintro e w8 ⟨rfl, rfl⟩
      obtain ⟨n, hn, hn1, hn2⟩ : ∃ n : Nat, min (1 + m) (t.size : Int) = n ∧ 1 ≤ n ∧ n ≤ t.size := ⟨(min (1 + m) (t.size : Int)).toNat, by omega, by omega, by omega⟩
      rw [hn]
      have hn3 : (0 : Int) ≤ (n : Int) := by omega
      have hn4 : (n : Int) ≤ (t.size : Int) := by omega
      have hx1 : (t.extract 0 n).size ≤ 204 := by rw [ByteArray.size_extract]; omega
      have hx2 : (t.extract n t.size).size = t.size - n := by rw [ByteArray.size_extract]; omega
      have htk : t.extract 0 n = t.extract 0 n := rfl
      generalize hp1 : t.extract 0 n = p1 at *
      generalize hp2 : t.extract n t.size = p2 at *
      clear hn htk
      go_wp2_with (at_builtin; refine wpList_append_own _ rfl _ _ 35 rfl w5.heap.size 9 i0 (.string ByteArray.empty) 1 16 Try.underlying35 hi hz0 hz1 hz2 rfl (by decide) _ _ _ rfl (own7.alloc _) ⟨w8.heap.size, 0, none⟩ 1 1 [.string p1] rfl rfl ?c1 ?c2 ?c3 ?c4 ?c5 ?_)
      case c1 => exact new_one _ _ _
      case c2 => intro u hu; simp at hu; subst hu; rfl
      case c3 => unfold maxLen; omega
      case c4 => omega
      case c5 => simp; omega
      intro v9 w9 own9 grow9 nil9
      have hrow := fun q hq => (own7.lt q hq).1
      have kR9 := (grow9.block _ (by simp; omega) (row_apart own7 kR7 (by decide))).trans ((Below.heap_alloc w8 _ _ (by omega)).trans kR7)
      have kF9 := (grow9.block _ (by simp; omega) (row_apart own7 kF7 (by decide))).trans ((Below.heap_alloc w8 _ _ (by omega)).trans kF7)
      have bw9 : Below w.heap.size w w9 := (bw7.alloc bw7.size _).grown grow9 (by simp; omega) (fun q hq => by have := hrow q hq; omega)
      have kc9 : Cur w9 c x len cap := (kc7.alloc _).same ((Below.refl _ _).grown grow9 (kc7.alloc _).lt (fun q hq => by have := hrow q hq; omega))
      have sz9 : w5.heap.size ≤ w9.heap.size := by have := grow9.size; simp at this; omega
      have hnv9 : v9 ≠ .slice none 0 0 := nil9
      have hps9 : ∀ p ∈ ps ++ [p1], p.size ≤ 204 := fun p hp => by
        rcases List.mem_append.1 hp with h | h
        · exact HALL.out p h
        · simp at h; rw [h]; exact hx1
      have HP9 : Hid _ := hps9
      have own9' : w9.ownsRow w5.heap.size 9 1 v9 (ps ++ [p1]).length ((ps ++ [p1]).map Value.string) := by simpa using own9
      clear own9 grow9 nil9 hrow kR7 kF7 bw7 kc7 sz7 own7 hps9
      have hlen9 : (ps ++ [p1]).length = ps.length + 1 := by simp
      generalize ps ++ [p1] = ps9 at own9' HP9 hlen9
      rcases own9'.2 with ⟨hbad, _⟩ | ⟨g9, cap9, cur9, rfl, hg9, hh9, hle9, _⟩
      · exact absurd hbad hnv9
      have HNV9 : Hid _ := hnv9
      clear hnv9
      rw [hlen9] at own9' ⊢
      by_cases hbig : (40 : Int) < ((ps.length + 1 : Nat) : Int)
      · -- the last piece
        have hwrap : ((ps.length + 1 : Nat) : Int) = (ps.length : Int) + 1 := by omega
        go_wp2_with (at_builtin; refine wpList_append_own _ rfl _ _ 35 rfl w5.heap.size 9 i0 (.string ByteArray.empty) 1 16 Try.underlying35 hi hz0 hz1 hz2 rfl (by decide) _ _ _ rfl (own9'.alloc _) ⟨w9.heap.size, 0, none⟩ 1 1 [.string p2] rfl rfl ?c1 ?c2 ?c3 ?c4 ?c5 ?_)
        case c1 => exact new_one _ _ _
        case c2 => intro u hu; simp at hu; subst hu; rfl
        case c3 => unfold maxLen; omega
        case c4 => omega
        case c5 => simp; omega
        intro v10 w10 own10 grow10 nil10
        have hrow := fun q hq => (own9'.lt q hq).1
        have kR10 := (grow10.block _ (by simp; omega) (row_apart own9' kR9 (by decide))).trans ((Below.heap_alloc w9 _ _ (by omega)).trans kR9)
        have kF10 := (grow10.block _ (by simp; omega) (row_apart own9' kF9 (by decide))).trans ((Below.heap_alloc w9 _ _ (by omega)).trans kF9)
        have bw10 : Below w.heap.size w w10 := (bw9.alloc bw9.size _).grown grow10 (by simp; omega) (fun q hq => by have := hrow q hq; omega)
        have sz10 : w5.heap.size ≤ w10.heap.size := by have := grow10.size; simp at this; omega
        have hps10 : ∀ p ∈ ps9 ++ [p2], p.size ≤ 204 := fun p hp => by
          rcases List.mem_append.1 hp with h | h
          · exact HP9.out p h
          · simp at h; rw [h]; omega
        have own10' : w10.ownsRow w5.heap.size 9 1 v10 (ps9 ++ [p2]).length ((ps9 ++ [p2]).map Value.string) := by
          rw [show (ps9 ++ [p2]).length = ps.length + 1 + 1 by simp; omega, List.map_append]
          exact own10
        have hlen10 : (ps9 ++ [p2]).length ≤ 42 := by simp; omega
        have hp0 := at_cell kF10 0
        have hp1' := at_cell kF10 1
        have q0 := at_cell kR10 0
        have q1 := at_cell kR10 1
        have f0 := at_open kR10 0
        have f1 := at_open kR10 1
        have HS : Hid _ := And.intro (HFin.out w10 v10 (ps9 ++ [p2]) kR10 bw10 own10' sz10) (And.intro nil10 (And.intro hps10 hlen10))
        clear own10 grow10 hrow kR9 kF9 bw9 kc9 own9' kR10 kF10 bw10 own10' sz10 hps10 nil10 hh9 hg9 hle9 hlen10
        go_wp2_with fail
        exact bodyPost_ret (v := .tuple #[.agg #[.string r, .int .i64 k], v10]) (by simp [results, Try.results32, go_sem, at_cell HS.out.1.1]) rfl ⟨r, k, v10, ps9 ++ [p2], rfl, ⟨hr, hk0, hk1, HS.out.2.2.2, HS.out.2.2.1⟩, HS.out.1.2.1, HS.out.2.1, HS.out.1.2.2⟩
      · have hn40 : ¬ (40 : Int) < (ps.length : Int) + 1 := by omega
        go_wp2_with fail
        go_roundw
        case rel => exact ⟨p2, ps9, by rfl, by omega, by omega, HP9.out, by rw [hlen9]; exact own9', by rw [← hlen9]; exact HNV9.out, bw9, kc9, kR9, kF9, sz9⟩
        case measure => simp; omega
    · have p0 := at_cell kF 0
      have p1 := at_cell kF 1
      have q0 := at_cell kR 0
      have q1 := at_cell kR 1
      have f0 := at_open kR 0
      have f1 := at_open kR 1
      have HS : Hid _ := HFin.out wr u7 ps kR hbw own hsw
      clear kR kF hbw own kc
      go_wp2_with fail
      exact bodyPost_ret (v := .tuple #[.agg #[.string r, .int .i64 k], u7]) (by simp [results, Try.results32, go_sem, at_cell HS.out.1]) rfl ⟨r, k, u7, ps, rfl, ⟨hr, hk0, hk1, by omega, HALL.out⟩, HS.out.2.1, HNV.out, HS.out.2.2⟩

end Go.Proofs.Ytbjkbhchcoabcaa
