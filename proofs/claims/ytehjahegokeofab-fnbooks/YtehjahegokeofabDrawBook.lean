/-
  Chapter 6's draw: a book (l6Draw).
-/
import Derived.Test.YtehjahegokeofabDrawMap
import Derived.Test.YtehjahegokeofabBookRow
import Derived.Test.YtehjahegokeofabMapM2
import Derived.Test.YtehjahegokeofabMap5
namespace Go.Proofs.Ytehjahegokeofab
open Go.RowKit
set_option linter.unusedVariables false

/-- A book that was drawn: its map is a row of its own, its numbers are small. -/
structure BookSt (c : Nat) (x : Option Addr) (len cap : Nat) (w W : World) (b : Bk) : Prop where
  own : W.ownsRow w.heap.size 80 3 b.m b.rs.length (b.rs.flatMap runC)
  kc : Cur W c x len cap
  u : Upto c w W
  lt : c < w.heap.size
  few : b.rs.length ≤ 17
  fit : FitRuns b.rs
  nm : b.nm.size ≤ 5
  sz : -1 ≤ b.sz ∧ b.sz ≤ 17
  ep : -1 ≤ b.ep ∧ b.ep ≤ 1001
theorem BookSt.step {c : Nat} {x : Option Addr} {len cap : Nat} {w W W' : World} {b : Bk} (h : BookSt c x len cap w W b) (u : Upto c W W') (kc : Cur W' c x len cap) : BookSt c x len cap w W' b :=
  ⟨ownsRow_upto h.own u h.lt, kc, h.u.trans u, h.lt, h.few, h.fit, h.nm, h.sz, h.ep⟩
theorem BookSt.below {c : Nat} {x : Option Addr} {len cap : Nat} {w W W' : World} {b : Bk} (h : BookSt c x len cap w W b) (k : Below W.heap.size W W') : BookSt c x len cap w W' b :=
  h.step (Upto.ofBelow k) (h.kc.below k)
theorem BookSt.form {c : Nat} {x : Option Addr} {len cap : Nat} {w W : World} {b : Bk} (h : BookSt c x len cap w W b) : ∃ o cp, b.m = .slice o b.rs.length cp := own_slice h.own
theorem BookSt.reads {c : Nat} {x : Option Addr} {len cap : Nat} {w W : World} {b : Bk} (h : BookSt c x len cap w W b) : ReadsR 3 runC W.heap.size W b.m b.rs := ReadsR.of_own runC_len h.own
theorem BookSt.long {c : Nat} {x : Option Addr} {len cap : Nat} {w W : World} {b : Bk} (h : BookSt c x len cap w W b) : b.nm.size ≤ maxLen := by have := h.nm; unfold maxLen; omega
/-- A block of another type that lies behind the start is written. -/
theorem BookSt.put {c : Nat} {x : Option Addr} {len cap : Nat} {w W : World} {b : Bk} {g i : Nat} {cs : Array Value} (h : BookSt c x len cap w W b) (k : W.heap[g]? = some (.cells cs 50 (0, 0))) (hg : w.heap.size ≤ g) (v : Value) : BookSt c x len cap w (W.setCell ⟨g, i, none⟩ v) b := by
  have hne := own_not_box h.own k (by decide)
  have hlt := h.lt
  have hb : ∀ q, q < W.heap.size → q ≠ g → (W.setCell ⟨g, i, none⟩ v).heap[q]? = W.heap[q]? := fun q hq hqg => ((Upto.refl g W).setCell ⟨g, i, none⟩ (.inl rfl) v).block q hq hqg
  refine ⟨own_rng_not h.own (fun q hq hv => hb q hq (fun e => hne (by rw [← e]; exact hv))), h.kc.same (((Upto.refl g W).setCell ⟨g, i, none⟩ (.inl rfl) _).toBelow h.kc.lt (by omega)), h.u.setCell ⟨g, i, none⟩ (.inr hg) _, h.lt, h.few, h.fit, h.nm, h.sz, h.ep⟩

/-- While it is drawn: the book's box at nB, the answer's at the start's end. -/
structure BkSt (c : Nat) (x : Option Addr) (len cap nB : Nat) (w W : World) (b : Bk) : Prop where
  st : BookSt c x len cap w W b
  kB : W.heap[nB]? = some (.cells #[.string b.nm, .int .i64 b.sz, b.m, .bool b.fx, .int .i64 b.ep] 50 (0, 0))
  kR : W.heap[w.heap.size]? = some (.cells #[.string ⟨#[]⟩, .int .i64 0, .slice none 0 0, .bool false, .int .i64 0] 50 (0, 0))
  nb : w.heap.size < nB
theorem BkSt.step {c nB : Nat} {x : Option Addr} {len cap : Nat} {w W W' : World} {b : Bk} (h : BkSt c x len cap nB w W b) (u : Upto c W W') (kc : Cur W' c x len cap) : BkSt c x len cap nB w W' b := by
  have hlt := h.st.lt
  have hnb := h.nb
  exact ⟨h.st.step u kc, (u.block _ (heap_lt h.kB) (by omega)).trans h.kB, (u.block _ (heap_lt h.kR) (by omega)).trans h.kR, h.nb⟩
theorem BkSt.below {c nB : Nat} {x : Option Addr} {len cap : Nat} {w W W' : World} {b : Bk} (h : BkSt c x len cap nB w W b) (k : Below W.heap.size W W') : BkSt c x len cap nB w W' b :=
  h.step (Upto.ofBelow k) (h.st.kc.below k)
theorem BkSt.alloc {c nB : Nat} {x : Option Addr} {len cap : Nat} {w W : World} {b : Bk} (h : BkSt c x len cap nB w W b) (o : Obj) : BkSt c x len cap nB w (W.alloc o) b :=
  h.below (bw_alloc (Below.refl _ _))
theorem BkSt.other {c nB : Nat} {x : Option Addr} {len cap : Nat} {w W : World} {b : Bk} (h : BkSt c x len cap nB w W b) (i : Nat) (v : Value) : (W.setCell ⟨nB, i, none⟩ v).heap[w.heap.size]? = some (.cells #[.string ⟨#[]⟩, .int .i64 0, .slice none 0 0, .bool false, .int .i64 0] 50 (0, 0)) :=
  (((Upto.refl nB W).setCell ⟨nB, i, none⟩ (.inl rfl) v).block _ (heap_lt h.kR) (Nat.ne_of_lt h.nb)).trans h.kR
theorem BkSt.name {c nB : Nat} {x : Option Addr} {len cap : Nat} {w W : World} {b : Bk} (h : BkSt c x len cap nB w W b) (s : ByteArray) (hs : s.size ≤ 5) : BkSt c x len cap nB w (W.setCell ⟨nB, 0, none⟩ (.string s)) ⟨s, b.sz, b.m, b.rs, b.fx, b.ep⟩ := by
  have p := h.st.put (i := 0) h.kB (Nat.le_of_lt h.nb) (.string s)
  exact ⟨⟨p.own, p.kc, p.u, p.lt, p.few, p.fit, hs, p.sz, p.ep⟩, set_at h.kB 0 _, h.other 0 _, h.nb⟩
theorem BkSt.size {c nB : Nat} {x : Option Addr} {len cap : Nat} {w W : World} {b : Bk} (h : BkSt c x len cap nB w W b) (z : Int) (hz : -1 ≤ z ∧ z ≤ 17) : BkSt c x len cap nB w (W.setCell ⟨nB, 1, none⟩ (.int .i64 z)) ⟨b.nm, z, b.m, b.rs, b.fx, b.ep⟩ := by
  have p := h.st.put (i := 1) h.kB (Nat.le_of_lt h.nb) (.int .i64 z)
  exact ⟨⟨p.own, p.kc, p.u, p.lt, p.few, p.fit, p.nm, hz, p.ep⟩, set_at h.kB 1 _, h.other 1 _, h.nb⟩
theorem BkSt.epoch {c nB : Nat} {x : Option Addr} {len cap : Nat} {w W : World} {b : Bk} (h : BkSt c x len cap nB w W b) (z : Int) (hz : -1 ≤ z ∧ z ≤ 1001) : BkSt c x len cap nB w (W.setCell ⟨nB, 4, none⟩ (.int .i64 z)) ⟨b.nm, b.sz, b.m, b.rs, b.fx, z⟩ := by
  have p := h.st.put (i := 4) h.kB (Nat.le_of_lt h.nb) (.int .i64 z)
  exact ⟨⟨p.own, p.kc, p.u, p.lt, p.few, p.fit, p.nm, p.sz, hz⟩, set_at h.kB 4 _, h.other 4 _, h.nb⟩
theorem BkSt.map {c nB base : Nat} {x : Option Addr} {len cap : Nat} {w W : World} {b : Bk} (h : BkSt c x len cap nB w W b) (m : Value) (rs : List (Int × Int × Int)) (hl : rs.length ≤ 17) (hf : FitRuns rs) (hb : w.heap.size ≤ base) (own : W.ownsRow base 80 3 m rs.length (rs.flatMap runC)) : BkSt c x len cap nB w (W.setCell ⟨nB, 2, none⟩ m) ⟨b.nm, b.sz, m, rs, b.fx, b.ep⟩ := by
  have p : BookSt c x len cap w (W.setCell ⟨nB, 2, none⟩ m) ⟨b.nm, b.sz, m, rs, b.fx, b.ep⟩ := BookSt.put (b := ⟨b.nm, b.sz, m, rs, b.fx, b.ep⟩) (i := 2) ⟨owns_mono own hb, h.st.kc, h.st.u, h.st.lt, hl, hf, h.st.nm, h.st.sz, h.st.ep⟩ h.kB (Nat.le_of_lt h.nb) m
  exact ⟨p, set_at h.kB 2 _, h.other 2 _, h.nb⟩
theorem belowM_few (rs : List (Int × Int × Int)) (n : Int) : (belowM rs n).length ≤ 17 := by
  unfold belowM
  split
  · have := mapOf_len (cutAt (pages rs) n)
    rw [cutAt_length] at this
    omega
  · simp

set_option maxRecDepth 100000 in
set_option maxHeartbeats 6400000 in
theorem draw6_any (c : Nat) (x : Option Addr) (len cap : Nat) (w : World) (hc : Cur w c x len cap) :
    Calls Try.prog 73 #[.pointer (some ⟨c, 0, none⟩)] w fun e w' => ∃ b : Bk, e = .returned (.agg #[.string b.nm, .int .i64 b.sz, b.m, .bool b.fx, .int .i64 b.ep]) ∧ BookSt c x len cap w w' b := by
  have hlt := hc.lt
  obtain ⟨W0, hW0, kR, d0, z0⟩ := box1 w #[.string ⟨#[]⟩, .int .i64 0, .slice none 0 0, .bool false, .int .i64 0] 50
  have kc : Cur W0 c x len cap := hc.below d0
  have u : Upto c w W0 := Upto.ofBelow d0
  have HW0 : Hid (W0 = _) := hW0
  have sR : w.heap.size < W0.heap.size := by omega
  clear hW0 hc d0 z0
  go_enter Try.func73, Try.ntmps73
  go_wp2_with fail
  rw [← HW0.out]
  clear HW0
  refine (name_any c x len cap _ kc).mono ?_
  rintro e w1 ⟨nm, rfl, hnm, u1, k1⟩
  replace kR := (u1.block _ sR (by omega)).trans kR
  replace sR := Nat.lt_of_lt_of_le sR u1.size
  replace u := u.trans u1
  clear u1 kc
  go_wp2_with fail
  refine (below_any c x len cap 16 _ (by omega) k1).mono ?_
  rintro e w2 ⟨m, rfl, hm, u1, k2⟩
  have hm16 : m < 16 := hm.2.1 (by omega)
  have hm0 := hm.1
  replace kR := (u1.block _ sR (by omega)).trans kR
  replace sR := Nat.lt_of_lt_of_le sR u1.size
  replace u := u.trans u1
  clear u1 k1 hm
  go_wp2_with fail
  refine (draw5_any c x len cap _ k2).mono ?_
  rintro e w3 ⟨g, cp, rs, rfl, ms⟩
  have hu := u.size
  replace kR := (ms.u.block _ sR (by omega)).trans kR
  replace sR := Nat.lt_of_lt_of_le sR ms.u.size
  have s3 : BookSt c x len cap w w3 ⟨nm, 1 + m, .slice (some ⟨g, 0, none⟩) rs.length cp, rs, false, 0⟩ := ⟨owns_mono ms.own hu, ms.kc, u.trans ms.u, hlt, ms.few, ms.fit, hnm, by simp only; omega, by simp only; omega⟩
  clear u ms k2 hu
  go_wp2_with fail
  refine (once_any c x len cap 3 _ (by omega) s3.kc).mono ?_
  rintro e w4 ⟨fx, rfl, u1, k1⟩
  replace s3 := s3.step u1 k1
  replace kR := (u1.block _ sR (by omega)).trans kR
  replace sR := Nat.lt_of_lt_of_le sR u1.size
  clear u1 k1
  go_wp2_with fail
  refine (below_any c x len cap 4 _ (by omega) s3.kc).mono ?_
  rintro e w5 ⟨ep, rfl, hm, u1, k1⟩
  have he : -1 ≤ ep ∧ ep ≤ 1001 := by have := hm.2.1 (by omega); have := hm.1; omega
  replace s3 := s3.step u1 k1
  replace kR := (u1.block _ sR (by omega)).trans kR
  replace sR := Nat.lt_of_lt_of_le sR u1.size
  clear u1 k1 hm
  have s5 : BookSt c x len cap w w5 ⟨nm, 1 + m, .slice (some ⟨g, 0, none⟩) rs.length cp, rs, fx, ep⟩ := ⟨s3.own, s3.kc, s3.u, s3.lt, s3.few, s3.fit, s3.nm, s3.sz, he⟩
  have bP : Below w5.heap.size w5 (w5.alloc (.cells #[.string nm, .int .i64 (1 + m), .slice (some ⟨g, 0, none⟩) rs.length cp, .bool fx, .int .i64 ep] 50)) := bw_alloc (Below.refl _ _)
  have kB := heap_alloc_new w5 (.cells #[.string nm, .int .i64 (1 + m), .slice (some ⟨g, 0, none⟩) rs.length cp, .bool fx, .int .i64 ep] 50)
  have st : BkSt c x len cap w5.heap.size w (w5.alloc (.cells #[.string nm, .int .i64 (1 + m), .slice (some ⟨g, 0, none⟩) rs.length cp, .bool fx, .int .i64 ep] 50)) ⟨nm, 1 + m, .slice (some ⟨g, 0, none⟩) rs.length cp, rs, fx, ep⟩ := ⟨s5.below bP, kB, (bP.block _ sR).trans kR, sR⟩
  clear s3 s5 bP kB kR
  go_upto_region 2 with fail
  generalize w5.alloc (.cells #[.string nm, .int .i64 (1 + m), .slice (some ⟨g, 0, none⟩) rs.length cp, .bool fx, .int .i64 ep] 50) = W6 at *
  generalize w5.heap.size = nB at *
  generalize hb0 : (⟨nm, 1 + m, .slice (some ⟨g, 0, none⟩) rs.length cp, rs, fx, ep⟩ : Bk) = b0 at st
  have hm2 : b0.m = .slice (some ⟨g, 0, none⟩) rs.length cp := by rw [← hb0]
  clear hb0 hm16 hm0 he sR
  go_cut [23] (fun v wx => ∃ y : Bool, v = .bool y ∧ BkSt c x len cap nB w wx b0)
  case first =>
    have p2 := at_cell st.kB 2
    obtain ⟨o1, c1, hf⟩ := st.st.form
    have rd := st.st.reads
    rw [hf] at p2 rd
    go_wp2_with fail
    refine (specMapOk_any _ b0.rs _ rd).mono ?_
    rintro e w7 ⟨rfl, b7⟩
    have st7 := st.below b7
    clear b7 st p2 rd
    cases mapOk b0.rs
    · go_wp2_with fail
      go_meet
      exact ⟨false, rfl, st7⟩
    · go_wp2_with fail
      refine (once_any c x len cap 5 _ (by omega) st7.st.kc).mono ?_
      rintro e w8 ⟨y, rfl, u1, k1⟩
      have st8 := st7.step u1 k1
      clear st7 u1 k1
      go_wp2_with fail
      go_meet
      exact ⟨!y, rfl, st8⟩
  case rest =>
    obtain ⟨y, rfl, st7⟩ := hcut
    clear st
    go_upto_if 23 with fail
    go_cut [] (fun wx => ∃ b : Bk, BkSt c x len cap nB w wx b)
    case first =>
      cases y
      · go_wp2_with fail
        go_meet
        exact ⟨b0, st7⟩
      · obtain ⟨o1, c1, hf⟩ := st7.st.form
        have p1 := at_cell st7.kB 1
        have p2 := at_cell st7.kB 2
        have rd := st7.st.reads
        rw [hf] at p2 rd
        have hsz := st7.st.sz
        go_wp2_with fail
        refine (specBelow_any _ b0.rs b0.sz _ (by omega) rd).mono ?_
        rintro e w8 ⟨v', rfl, own8, -, b8⟩
        have hw := st7.st.u.size
        have st8 := st7.below b8
        have q2 := at_cell st8.kB 2
        have f2 := at_open st8.kB 2
        have HS : Hid _ := st8.map v' _ (belowM_few _ _) (fit_below b0.rs b0.sz) hw own8
        obtain ⟨o2, c2, hf2⟩ := own_slice own8
        subst hf2
        rw [hf] at q2
        clear st7 st8 own8 b8 p1 p2 rd
        go_wp2_with fail
        go_meet
        exact ⟨_, HS.out⟩
    case rest =>
      obtain ⟨b, st8⟩ := hcut
      clear st7 hm2
      go_wp2_with fail
      refine (once_any c x len cap 10 _ (by omega) st8.st.kc).mono ?_
      rintro e w9 ⟨y2, rfl, u1, k1⟩
      have st9 := st8.step u1 k1
      clear st8 u1 k1
      go_upto_if 31 with fail
      go_cut [] (fun wx => ∃ b : Bk, BkSt c x len cap nB w wx b)
      case first =>
        cases y2
        · go_wp2_with fail
          go_meet
          exact ⟨b, st9⟩
        · go_wp2_with fail
          refine (below_any c x len cap 3 _ (by omega) st9.st.kc).mono ?_
          rintro e wa ⟨m3, rfl, hm3, u1, k1⟩
          have sta := st9.step u1 k1
          have hm : m3 = 0 ∨ m3 = 1 ∨ m3 = 2 := by have := hm3.2.1 (by omega); omega
          clear u1 k1 st9 hm3
          rcases hm with rfl | rfl | rfl
          · go_wp2_with fail
            refine (below_any c x len cap 3 _ (by omega) (sta.alloc _).st.kc).mono ?_
            rintro e wb ⟨y, rfl, hy, u1, k1⟩
            have stb := (sta.alloc _).step u1 k1
            have hy3 := hy.2.1 (by omega)
            obtain ⟨jn, rfl⟩ := Int.eq_ofNat_of_zero_le hy.1
            obtain ⟨z, hz, hzs⟩ : ∃ z : ByteArray, wb.cell? ⟨wa.heap.size, jn, none⟩ = some (.string z) ∧ z.size ≤ 5 := by
              rw [pick_cell u1 sta.st.kc.lt jn]
              have h3 : jn = 0 ∨ jn = 1 ∨ jn = 2 := by omega
              rcases h3 with rfl | rfl | rfl <;> exact ⟨_, rfl, by decide⟩
            have q0 := at_cell stb.kB 0
            have f0 := at_open stb.kB 0
            have HS : Hid _ := stb.name z hzs
            clear u1 k1 sta stb hy
            go_wp2_with fail
            go_meet
            exact ⟨_, HS.out⟩
          · go_wp2_with fail
            refine (below_any c x len cap 4 _ (by omega) (sta.alloc _).st.kc).mono ?_
            rintro e wb ⟨y, rfl, hy, u1, k1⟩
            have stb := (sta.alloc _).step u1 k1
            have hy3 := hy.2.1 (by omega)
            obtain ⟨jn, rfl⟩ := Int.eq_ofNat_of_zero_le hy.1
            obtain ⟨z, hz, hzs⟩ : ∃ z : Int, wb.cell? ⟨wa.heap.size, jn, none⟩ = some (.int .i64 z) ∧ (-1 ≤ z ∧ z ≤ 17) := by
              rw [pick_cell u1 sta.st.kc.lt jn]
              have h3 : jn = 0 ∨ jn = 1 ∨ jn = 2 ∨ jn = 3 := by omega
              rcases h3 with rfl | rfl | rfl | rfl <;> exact ⟨_, rfl, by decide⟩
            have q0 := at_cell stb.kB 1
            have f0 := at_open stb.kB 1
            have HS : Hid _ := stb.size z hzs
            clear u1 k1 sta stb hy
            go_wp2_with fail
            go_meet
            exact ⟨_, HS.out⟩
          · go_wp2_with fail
            refine (below_any c x len cap 3 _ (by omega) (sta.alloc _).st.kc).mono ?_
            rintro e wb ⟨y, rfl, hy, u1, k1⟩
            have stb := (sta.alloc _).step u1 k1
            have hy3 := hy.2.1 (by omega)
            obtain ⟨jn, rfl⟩ := Int.eq_ofNat_of_zero_le hy.1
            obtain ⟨z, hz, hzs⟩ : ∃ z : Int, wb.cell? ⟨wa.heap.size, jn, none⟩ = some (.int .i64 z) ∧ (-1 ≤ z ∧ z ≤ 1001) := by
              rw [pick_cell u1 sta.st.kc.lt jn]
              have h3 : jn = 0 ∨ jn = 1 ∨ jn = 2 := by omega
              rcases h3 with rfl | rfl | rfl <;> exact ⟨_, rfl, by decide⟩
            have q0 := at_cell stb.kB 4
            have f0 := at_open stb.kB 4
            have HS : Hid _ := stb.epoch z hzs
            clear u1 k1 sta stb hy
            go_wp2_with fail
            go_meet
            exact ⟨_, HS.out⟩
      case rest =>
        obtain ⟨b9, sa⟩ := hcut
        clear st9
        obtain ⟨bn, bz, bm, br, bf, be⟩ := b9
        obtain ⟨o1, c1, hf⟩ := sa.st.form
        simp only at hf
        subst hf
        have p0 := at_cell sa.kB 0
        have p1 := at_cell sa.kB 1
        have p2 := at_cell sa.kB 2
        have p3 := at_cell sa.kB 3
        have p4 := at_cell sa.kB 4
        have q0 := at_cell sa.kR 0
        have q1 := at_cell sa.kR 1
        have q2 := at_cell sa.kR 2
        have q3 := at_cell sa.kR 3
        have q4 := at_cell sa.kR 4
        have f0 := at_open sa.kR 0
        have f1 := at_open sa.kR 1
        have f2 := at_open sa.kR 2
        have f3 := at_open sa.kR 3
        have f4 := at_open sa.kR 4
        have e1 := sa.st.put (i := 0) sa.kR (Nat.le_refl _) (.string bn)
        have j1 := set_at sa.kR 0 (.string bn)
        have e2 := e1.put (i := 1) j1 (Nat.le_refl _) (.int .i64 bz)
        have j2 := set_at j1 1 (.int .i64 bz)
        have e3 := e2.put (i := 2) j2 (Nat.le_refl _) (.slice o1 br.length c1)
        have j3 := set_at j2 2 (.slice o1 br.length c1)
        have e4 := e3.put (i := 3) j3 (Nat.le_refl _) (.bool bf)
        have j4 := set_at j3 3 (.bool bf)
        have e5 := e4.put (i := 4) j4 (Nat.le_refl _) (.int .i64 be)
        have HS : Hid _ := And.intro (set_five sa.kR (.string bn) (.int .i64 bz) (.slice o1 br.length c1) (.bool bf) (.int .i64 be)) e5
        clear e1 e2 e3 e4 e5 j1 j2 j3 j4 sa
        simp only at p0 p1 p2 p3 p4
        go_wp2_with fail
        exact bodyPost_ret (v := .agg #[.string bn, .int .i64 bz, .slice o1 br.length c1, .bool bf, .int .i64 be]) (by simp [results, Try.results73, go_sem, at_cell HS.out.1]) rfl ⟨_, rfl, HS.out.2⟩

end Go.Proofs.Ytehjahegokeofab
