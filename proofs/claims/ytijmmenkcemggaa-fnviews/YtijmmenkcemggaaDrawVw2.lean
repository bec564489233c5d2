/-
  Chapter 14's draws: a view (l14Draw).
-/
import Derived.Test.YtijmmenkcemggaaDrawVw
namespace Go.Proofs.Ytijmmenkcemggaa
open Go.RowKit Nums
set_option linter.unusedVariables false
set_option maxRecDepth 100000

theorem new_oneR (w : World) (y : Int) (j : Nat) (u : Value) (hj : [Value.int .i64 y][j]? = some u) : ∃ g off, some (⟨w.heap.size, 0, none⟩ : Addr) = some ⟨g, off, none⟩ ∧ (w.alloc (.cells #[.int .i64 y] 2)).cell? ⟨g, off + j, none⟩ = some u := by
  have hj0 : j = 0 := by have := (List.getElem?_eq_some_iff.1 hj).1; simp at this; exact this
  subst hj0
  exact ⟨w.heap.size, 0, rfl, by simp at hj; subst hj; exact at_cell (heap_alloc_new w _) 0⟩

set_option maxHeartbeats 12800000 in
theorem draw14_any (c : Nat) (x : Option Addr) (len cap : Nat) (w : World) (hc : Cur w c x len cap) :
    Calls Try.prog 55 #[.pointer (some ⟨c, 0, none⟩)] w fun e w' => ∃ (n : Int) (v : Value) (ms : List Int), e = .returned (.agg #[.int .i64 n, v]) ∧ OwnVw w.heap.size w' v ms ∧ ((0 ≤ n ∧ n ≤ 1001) ∧ ∀ m ∈ ms, -1 ≤ m ∧ m ≤ 4) ∧ Upto c w w' ∧ Cur w' c x len cap := by
  obtain ⟨i0, hi0, hz0, hz1, hz2⟩ := info_parts Try.infoI64
  have hlt := hc.lt
  obtain ⟨W0, hW0, k0, d0, z0⟩ := box1 w #[.int .i64 0, .slice none 0 0] 26
  have u0 : Upto c w W0 := Upto.ofBelow d0
  have kc0 : Cur W0 c x len cap := hc.same (d0.mono hc.lt)
  have HW0 : Hid (W0 = _) := hW0
  clear hW0 hc
  go_enter Try.func55, Try.ntmps55
  go_wp2_with fail
  rw [← HW0.out]
  clear HW0
  refine (below_any c x len cap 9 _ (by omega) kc0).mono ?_
  rintro e w1 ⟨y, rfl, hy, u1, kc1⟩
  have hy0 := hy.1
  have hy9 := hy.2.1 (by omega)
  have hw1 : IntKind.i64.wrap (1 + y) = 1 + y := by rw [IntKind.wrap_i64]; omega
  have z1 := u1.size
  have st1 : VwSt c w1.heap.size x len cap w (w1.alloc (.cells #[.int .i64 (1 + y), .slice none 0 0] 26)) (1 + y) (.slice none 0 0) [] :=
    ⟨owns_nil _ _ _ _, heap_alloc_new _ _, (Below.heap_alloc _ _ _ (by omega)).trans ((u1.block _ (by omega) (by omega)).trans k0), kc1.alloc _, (u0.trans u1).alloc _, by omega, by omega, fun m hm => by simp at hm⟩
  clear hy u1 kc1 u0 kc0 k0 d0
  go_wp2_with fail
  generalize w1.alloc (.cells #[.int .i64 (1 + y), .slice none 0 0] 26) = W1 at *
  generalize 1 + y = n at *
  generalize w1.heap.size = nP at *
  refine (below_any c x len cap 4 _ (by omega) st1.kc).mono ?_
  rintro e w2 ⟨y2, rfl, hy2, u2, kc2⟩
  have hy20 := hy2.1
  have hy24 := hy2.2.1 (by omega)
  have st2 := st1.step u2 kc2
  have hw2 : IntKind.i64.wrap (1 + y2) = 1 + y2 := by rw [IntKind.wrap_i64]; omega
  clear st1 u2 kc2 hy2 hy0 hy9 hw1 z0 z1
  go_wp2_with fail
  go_loopw [4] (fun i wr => ∃ (k : Nat) (v : Value) (ms : List Int), k ≤ 4 ∧ i = .int .i64 k ∧ ms.length + k ≤ 4 ∧ VwSt c nP x len cap w wr n v ms) (fun i _ => (intOf i).toNat)
  case atStart =>
    obtain ⟨k, hk⟩ := Int.eq_ofNat_of_zero_le (show 0 ≤ 1 + y2 by omega)
    rw [hk]
    exact ⟨k, _, [], by omega, rfl, by simp; omega, st2⟩
  case round =>
    clear st2 hw2 hy20 hy24
    obtain ⟨k, v, ms, hk, rfl, hmk, st⟩ := hrel
    by_cases hk0 : 0 < k
    · have hkp : (k : Int) > 0 := by omega
      have hkw : IntKind.i64.wrap ((k : Int) - 1) = ((k - 1 : Nat) : Int) := by rw [IntKind.wrap_i64]; omega
      go_wp2_with fail
      refine (below_any c x len cap 4 _ (by omega) st.kc).mono ?_
      rintro e w3 ⟨h, rfl, hh, u3, kc3⟩
      have hh0 := hh.1
      have hh4 := hh.2.1 (by omega)
      have st3 := st.step u3 kc3
      have p0 := at_cell st3.kP 0
      have p1 := at_cell st3.kP 1
      clear st u3 kc3 hh
      go_wp2_with fail
      refine (l14At_any n v ms h _ (Reads.of_own st3.own)).mono ?_
      rintro e w4 ⟨rfl, b4⟩
      have st4 := st3.below b4
      clear st3 b4 p0 p1
      by_cases ha : vAt ms h < 0
      · generalize vAt ms h = a at ha
        obtain ⟨o4, c4, rfl⟩ := own_slice st4.own
        have p1 := at_cell st4.kP 1
        have st5 := st4.alloc (.cells #[.int .i64 h] 2)
        have hl5 := heap_lt st5.kP
        go_wp2_with (at_builtin; refine wpList_append_own _ rfl _ _ 24 rfl (nP + 1) 2 i0 (.int .i64 0) 1 8 Try.underlying24 hi0 hz0 hz1 hz2 rfl (by decide) _ _ _ rfl (st4.own.alloc _) ⟨w4.heap.size, 0, none⟩ 1 1 [.int .i64 h] rfl rfl ?c1 ?c2 ?c3 ?c4 ?c5 ?_)
        case c1 => exact new_one _ _ _
        case c2 => intro u hu; simp at hu; subst hu; rfl
        case c3 => unfold maxLen; omega
        case c4 => omega
        case c5 => omega
        intro v6 w6 own6 grow6 nil6
        obtain ⟨k1, -, -, -⟩ := st5.grow grow6 (.inr trivial)
        have st7 := st5.more grow6 h (by omega) own6
        obtain ⟨o6, c6, rfl⟩ := own_slice own6
        have q1 := at_cell k1 1
        have f1 := at_open k1 1
        have HST : Hid _ := st7
        clear st4 st5 own6 grow6 nil6 k1 st7 p1
        go_wp2_with fail
        go_roundw
        case rel => exact ⟨k - 1, _, ms ++ [h], by omega, by simp, by simp; omega, HST.out⟩
        case measure => simp [intOf]; omega
      · generalize vAt ms h = a at ha
        go_wp2_with fail
        go_roundw
        case rel => exact ⟨k - 1, v, ms, by omega, by simp, by omega, st4⟩
        case measure => simp [intOf]; omega
    · obtain rfl : k = 0 := by omega
      go_wp2_with fail
      refine (once_any c x len cap 8 _ (by omega) st.kc).mono ?_
      rintro e w3 ⟨y3, rfl, u3, kc3⟩
      have st3 := st.step u3 kc3
      clear st u3 kc3
      cases y3
      · obtain ⟨o9, c9, rfl⟩ := own_slice st3.own
        have p0 := at_cell st3.kP 0
        have p1 := at_cell st3.kP 1
        have q0 := at_cell st3.kR 0
        have q1 := at_cell st3.kR 1
        have f0 := at_open st3.kR 0
        have f1 := at_open st3.kR 1
        have HS : Hid _ := st3.drawn
        have HB : Hid _ := And.intro st3.bn st3.bm
        go_wp2_with fail
        exact bodyPost_ret (v := .agg #[.int .i64 n, .slice o9 ms.length c9]) (by simp [results, Try.results55, go_sem, at_cell HS.out.1]) rfl ⟨_, _, _, rfl, HS.out.2.1, HB.out, HS.out.2.2⟩
      · go_wp2_with fail
        refine (below_any c x len cap 3 _ (by omega) st3.kc).mono ?_
        rintro e w4 ⟨y4, rfl, hy4, u4, kc4⟩
        have hy40 := hy4.1
        have hy43 := hy4.2.1 (by omega)
        have st4 := st3.step u4 kc4
        clear st3 u4 kc4 hy4
        have h3 : y4 = 0 ∨ y4 = 1 ∨ y4 = 2 := by omega
        clear hy40 hy43
        rcases h3 with rfl | rfl | rfl
        · have st5 := st4.alloc (.cells #[.int .i64 0, .int .i64 1000, .int .i64 1001] 2)
          have nl := heap_lt st4.kP
          go_wp2_with fail
          refine (below_any c x len cap 3 _ (by omega) st5.kc).mono ?_
          rintro e w6 ⟨y6, rfl, hy6, u6, kc6⟩
          have hy63 := hy6.2.1 (by omega)
          obtain ⟨jn, rfl⟩ := Int.eq_ofNat_of_zero_le hy6.1
          obtain ⟨z, hz, hzb⟩ : ∃ z : Int, w6.cell? ⟨w4.heap.size, jn, none⟩ = some (.int .i64 z) ∧ (0 ≤ z ∧ z ≤ 1001) := by
            rw [pick_cell u6 st4.kc.lt jn]
            have h4 : jn = 0 ∨ jn = 1 ∨ jn = 2 := by omega
            rcases h4 with rfl | rfl | rfl
            · exact ⟨0, rfl, by decide⟩
            · exact ⟨1000, rfl, by decide⟩
            · exact ⟨1001, rfl, by decide⟩
          have st6 := st5.step u6 kc6
          have r0 := at_cell st6.kP 0
          have r1 := at_open st6.kP 0
          have st7 := st6.setN z hzb
          clear st4 st5 u6 kc6 hy6
          obtain ⟨o9, c9, rfl⟩ := own_slice st7.own
          have p0 := at_cell st7.kP 0
          have p1 := at_cell st7.kP 1
          have q0 := at_cell st7.kR 0
          have q1 := at_cell st7.kR 1
          have f0 := at_open st7.kR 0
          have f1 := at_open st7.kR 1
          have HS : Hid _ := st7.drawn
          have HB : Hid _ := And.intro st7.bn st7.bm
          go_wp2_with fail
          exact bodyPost_ret (v := .agg #[.int .i64 z, .slice o9 ms.length c9]) (by simp [results, Try.results55, go_sem, at_cell HS.out.1]) rfl ⟨_, _, _, rfl, HS.out.2.1, HB.out, HS.out.2.2⟩
        · obtain ⟨o4, c4, rfl⟩ := own_slice st4.own
          have S1 := at_cell st4.drew.kP 1
          obtain ⟨L, hL⟩ : ∃ L, L = ms.length + 1 := ⟨_, rfl⟩
          have HL : Hid (L = ms.length + 1) := hL
          have hml : ms.length ≤ 4 := by omega
          clear hL
          go_wp2_with fail
          go_region_law (first
            | (go_simp; go_at_call 56; refine (from_any c x len cap (-1) 4 _ (by omega) (by omega) (by omega) st4.drew.kc).mono ?_; rintro e w5 ⟨y5, rfl, hy5, u5, kc5⟩; have st5 := st4.drew.step u5 kc5; have st6 := st5.alloc (.cells #[.int .i64 y5] 2); have r1 := at_cell st5.kP 1; have r2 := at_cell st6.kP 1; dsimp only)
            | (refine step_append_readsV rfl (.tmp 44) (.tmp 47) 24 rfl (nP + 1) 2 i0 (.int .i64 0) 1 8 Try.underlying24 hi0 hz0 hz1 hz2 rfl (by decide) (.slice o4 ms.length c4) ms.length (ms.map (Value.int .i64)) ?e1 st6.own (some ⟨w5.heap.size, 0, none⟩) 1 1 [.int .i64 y5] ?e2 rfl ?hn ?h1 ?h63 ?hb ?hbase ?_
               case e1 => first | rfl | simp [Act.eval]
               case e2 => first | rfl | simp [Act.eval]
               case hn => intro j u hj; obtain ⟨g', off, e, hx⟩ := new_oneR w5 y5 j u hj; exact ⟨g', off, e, hx⟩
               case h1 => intro u hu; simp at hu; subst hu; rfl
               case h63 => unfold maxLen; omega
               case hb => omega
               case hbase => have := heap_lt st6.kP; omega
               intro v6 w6 own6 grow6 nil6
               have own6' := own6
               rw [← HL.out] at own6
               obtain ⟨o6, c6, rfl⟩ := own_slice own6
               have k6 := (st6.grow grow6 (.inr trivial)).1
               have q1 := at_cell k6 1
               have f1 := at_open k6 1))
          all_goals
            have st7 := st6.more grow6 y5 hy5 own6'
            have p0 := at_cell st7.kP 0
            have p1 := at_cell st7.kP 1
            have q0 := at_cell st7.kR 0
            have q1' := at_cell st7.kR 1
            have f0 := at_open st7.kR 0
            have f1' := at_open st7.kR 1
            have HS : Hid _ := st7.drawn
            have HB : Hid _ := And.intro st7.bn st7.bm
            clear st4 st5 st6 st7 own6 own6' grow6 nil6 k6 q1 f1 S1 r1 r2
            go_wp2_with fail
            exact bodyPost_ret (v := .agg #[.int .i64 n, .slice o6 L c6]) (by simp [results, Try.results55, go_sem, at_cell HS.out.1]) rfl ⟨_, _, _, rfl, HS.out.2.1, HB.out, HS.out.2.2⟩
        · have st5 := st4.alloc (.cells #[] 2)
          have r0 := at_cell st5.kP 1
          have r1 := at_open st5.kP 1
          have st7 := st5.setV (.slice (some ⟨w4.heap.size, 0, none⟩) 0 0) [] (World.ownsRow_lit w4 #[] 0 (by have := heap_lt st4.kP; omega) (Nat.zero_le _) rfl) (fun m hm => by simp at hm)
          have p0 := at_cell st7.kP 0
          have p1 := at_cell st7.kP 1
          have q0 := at_cell st7.kR 0
          have q1 := at_cell st7.kR 1
          have f0 := at_open st7.kR 0
          have f1 := at_open st7.kR 1
          have HS : Hid _ := st7.drawn
          have HB : Hid _ := And.intro st7.bn st7.bm
          clear st4 st5 st7
          go_wp2_with fail
          exact bodyPost_ret (v := .agg #[.int .i64 n, .slice (some ⟨w4.heap.size, 0, none⟩) 0 0]) (by simp [results, Try.results55, go_sem, at_cell HS.out.1]) rfl ⟨_, _, _, rfl, HS.out.2.1, HB.out, HS.out.2.2⟩

end Go.Proofs.Ytijmmenkcemggaa
