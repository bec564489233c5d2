/-
  Chapter 3's draws: a Feed (l3Draw), what it is fed (DrawFed), in pieces (DrawFedAll).
-/
import Derived.Test.YtbjkbhchcoabcaaRows1
import Derived.Test.YtbjkbhchcoabcaaFedAll
import Derived.Test.YtbjkbhchcoabcaaDrawFr2
import Derived.Laws.MakeOwn
import Derived.Deep.RegionHeld3
namespace Go.Proofs.Ytbjkbhchcoabcaa
open Go.RowKit
set_option linter.unusedVariables false
set_option maxRecDepth 100000

/-- string(make([]byte, n)): made and turned; how the memory lies then is nobody's business. -/
theorem made_bytes (n : Nat) (hn : n ≤ 1048576) : ∃ (M : World → World) (s : ByteArray), s.size = n ∧ (∀ W, Below W.heap.size W (M W) ∧ W.heap.size < (M W).heap.size) ∧
    (∀ W : World, (Instr.makeSlice 22 (.int .i64 (n : Int)) (.int .i64 (n : Int))).run Try.prog W = .ok (.slice (some ⟨W.heap.size, 0, none⟩) n n) (M W)) ∧
    (∀ W : World, (convert 22 9 (.slice (some ⟨W.heap.size, 0, none⟩) n n)).run Try.prog (M W) = .ok (.string s) (M W)) ∧
    ∀ W W' : World, W'.heap[W.heap.size]? = (M W).heap[W.heap.size]? → (convert 22 9 (.slice (some ⟨W.heap.size, 0, none⟩) n n)).run Try.prog W' = .ok (.string s) W' := by
  obtain ⟨i0, hi, hz0, hz1, hz2⟩ := info_parts Try.infoU8
  refine ⟨fun W => W.alloc (.cells ((List.replicate n (0 : Int)).map (Value.int .u8) ++ []).toArray 5), ⟨((List.replicate n (0 : Int)).map fun n => UInt8.ofNat n.toNat).toArray⟩, by show Array.size _ = n; simp, fun W => ⟨bw_alloc (Below.refl _ _), by simp⟩, fun W => ?_, fun W => ?_, fun W W' h => ?_⟩
  · have h := run_make (P := Try.prog) W 22 5 i0 (.int .u8 0) Try.underlying22 hi hz0 .i64 .i64 (n : Int) (n : Int) (by omega) (by omega) (by rw [hz2]; omega) (by omega)
    have e : madeCells (Value.int .u8 0).cells ((n : Int).toNat * i0.size) = ((List.replicate n (0 : Int)).map (Value.int .u8) ++ []).toArray := by
      apply Array.toList_inj.1
      rw [hz1, Nat.mul_one, Int.toNat_natCast]
      show (madeCells #[.int .u8 0] n).toList = _
      rw [toList_madeCells_one]
      simp
    rw [e] at h
    simpa using h
  · have := conv_new W (List.replicate n 0) [] n
    rwa [List.length_replicate] at this
  · have h2 : W'.heap[W.heap.size]? = some (.cells ((List.replicate n (0 : Int)).map (Value.int .u8) ++ []).toArray 5 (0, 0)) := h.trans (heap_alloc_new W _)
    have := conv_cells W' ⟨W.heap.size, 0, none⟩ n (List.replicate n 0) (fun j v hj => by
      rw [addr_add, at_cell h2 j]
      obtain ⟨hj', e⟩ := List.getElem?_eq_some_iff.1 hj
      simp at hj' e
      simp [hj', e])
    rwa [List.length_replicate] at this

set_option maxHeartbeats 3200000 in
theorem draw3_any (c : Nat) (x : Option Addr) (len cap : Nat) (w : World) (hc : Cur w c x len cap) :
    Calls Try.prog 72 #[.pointer (some ⟨c, 0, none⟩)] w fun e w' => ∃ (r : ByteArray) (k : Int), e = .returned (.agg #[.string r, .int .i64 k]) ∧ r.size ≤ 64 ∧ -1 ≤ k ∧ k ≤ 1000001 ∧ Upto c w w' ∧ Cur w' c x len cap := by
  have hlt := hc.lt
  -- the answer's box
  obtain ⟨W0, hW0⟩ : ∃ W0, W0 = w.alloc (.cells #[.string ⟨#[]⟩, .int .i64 0] 45) := ⟨_, rfl⟩
  have kR : W0.heap[w.heap.size]? = some (.cells #[.string ⟨#[]⟩, .int .i64 0] 45 (0, 0)) := by rw [hW0]; exact heap_alloc_new w _
  have u : Upto c w W0 := by rw [hW0]; exact (Upto.refl c w).alloc _
  have kc : Cur W0 c x len cap := by rw [hW0]; exact hc.alloc _
  have sR : w.heap.size < W0.heap.size := by rw [hW0]; simp
  have HW0 : Hid (W0 = _) := hW0
  clear hW0 hc
  have hne : w.heap.size ≠ c := by omega
  go_enter Try.func72, Try.ntmps72
  go_wp2_with fail
  rw [← HW0.out]
  clear HW0
  refine (below_any c x len cap 9 _ (by omega) kc).mono ?_
  rintro e w1 ⟨m, rfl, hm, u1, k1⟩
  have hm9 : m < 9 := hm.2.1 (by omega)
  have hm0 := hm.1
  replace kR := (u1.block _ sR hne).trans kR
  replace sR := Nat.lt_of_lt_of_le sR u1.size
  replace u := u.trans u1
  clear u1 hm kc
  go_wp2_with fail
  refine (draw2_any _ x len cap _ k1).mono ?_
  rintro e w2 ⟨s, rfl, hsz, u2, k2⟩
  replace kR := (u2.block _ sR hne).trans kR
  replace sR := Nat.lt_of_lt_of_le sR u2.size
  replace u := u.trans u2
  clear u2 k1
  go_wp2_with fail
  refine (specFed_any _ s m _ (by decide) (by omega)).mono ?_
  have hf := fed_bd ⟨#[]⟩ s m
  generalize fed ⟨#[]⟩ m s = fd at hf ⊢
  obtain ⟨⟨nr, nk⟩, ys⟩ := fd
  rintro e w3 ⟨sv, rfl, _, _, b3⟩
  simp only at hf ⊢
  have k3 := k2.below b3
  replace kR := (b3.block _ sR).trans kR
  replace sR := Nat.lt_of_lt_of_le sR b3.size
  replace u := u.below b3
  clear b3 k2
  -- the Feed's box
  have k4 := k3.alloc (.cells #[.string nr, .int .i64 nk] 45)
  have kF := heap_alloc_new w3 (.cells #[.string nr, .int .i64 nk] 45)
  have sF : w3.heap.size < (w3.alloc (.cells #[.string nr, .int .i64 nk] 45)).heap.size := by simp
  have hFR : w.heap.size < w3.heap.size := sR
  replace kR := (Below.heap_alloc w3 (.cells #[.string nr, .int .i64 nk] 45) _ sR).trans kR
  replace u := u.alloc (.cells #[.string nr, .int .i64 nk] 45)
  clear k3
  go_wp2_with fail
  generalize w3.alloc (.cells #[.string nr, .int .i64 nk] 45) = W4 at *
  refine (once_any _ x len cap 12 _ (by omega) k4).mono ?_
  rintro e w5 ⟨y, rfl, u5, k5⟩
  have hneF : w3.heap.size ≠ c := by omega
  replace kR := (u5.block _ (by omega) hne).trans kR
  replace kF := (u5.block _ sF hneF).trans kF
  replace sF := Nat.lt_of_lt_of_le sF u5.size
  replace u := u.trans u5
  clear u5 k4 sR
  -- the answer, out of the Feed's box
  have fin : ∀ (W : World) (r : ByteArray) (k : Int), W.heap[w.heap.size]? = some (.cells #[.string ⟨#[]⟩, .int .i64 0] 45 (0, 0)) → Upto c w W → Cur W c x len cap →
      ((W.setCell ⟨w.heap.size, 0, none⟩ (.string r)).setCell ⟨w.heap.size, 1, none⟩ (.int .i64 k)).heap[w.heap.size]? = some (.cells #[.string r, .int .i64 k] 45 (0, 0)) ∧
      Upto c w ((W.setCell ⟨w.heap.size, 0, none⟩ (.string r)).setCell ⟨w.heap.size, 1, none⟩ (.int .i64 k)) ∧ Cur ((W.setCell ⟨w.heap.size, 0, none⟩ (.string r)).setCell ⟨w.heap.size, 1, none⟩ (.int .i64 k)) c x len cap := fun W r k h1 h2 h3 => by
    obtain ⟨s1, u1⟩ := set_two h1 (.string r) (.int .i64 k)
    exact ⟨s1, (h2.setCell _ (.inr (Nat.le_refl _)) _).setCell _ (.inr (Nat.le_refl _)) _, h3.same (u1.toBelow h3.lt (by omega))⟩
  have HFin : Hid _ := fin
  clear fin
  cases y
  · have p0 := at_cell kF 0
    have p1 := at_cell kF 1
    have q0 := at_cell kR 0
    have q1 := at_cell kR 1
    have f0 := at_open kR 0
    have f1 := at_open kR 1
    have HS : Hid _ := HFin.out w5 nr nk kR u k5
    clear kR kF u k5 HFin
    go_wp2_with fail
    exact bodyPost_ret (v := .agg #[.string nr, .int .i64 nk]) (by simp [results, Try.results72, go_sem, at_cell HS.out.1]) rfl ⟨nr, nk, rfl, by omega, by omega, by omega, HS.out.2⟩
  · go_wp2_with fail
    refine (below_any _ x len cap 3 _ (by omega) k5).mono ?_
    rintro e w6 ⟨m3, rfl, hm3, u6, k6⟩
    replace kR := (u6.block _ (by omega) hne).trans kR
    replace kF := (u6.block _ sF hneF).trans kF
    replace sF := Nat.lt_of_lt_of_le sF u6.size
    replace u := u.trans u6
    have hmm : m3 = 0 ∨ m3 = 1 ∨ m3 = 2 := by omega
    clear u6 k5 hm3
    -- a Feed whose first cell, or whose second, was written
    have fin2 : ∀ (W : World) (r r' : ByteArray) (k k' : Int), W.heap[w3.heap.size]? = some (.cells #[.string r, .int .i64 k] 45 (0, 0)) → W.heap[w.heap.size]? = some (.cells #[.string ⟨#[]⟩, .int .i64 0] 45 (0, 0)) → Upto c w W → Cur W c x len cap → w3.heap.size < W.heap.size →
        ((W.setCell ⟨w3.heap.size, 0, none⟩ (.string r')).heap[w3.heap.size]? = some (.cells #[.string r', .int .i64 k] 45 (0, 0)) ∧ (W.setCell ⟨w3.heap.size, 0, none⟩ (.string r')).heap[w.heap.size]? = some (.cells #[.string ⟨#[]⟩, .int .i64 0] 45 (0, 0)) ∧ Upto c w (W.setCell ⟨w3.heap.size, 0, none⟩ (.string r')) ∧ Cur (W.setCell ⟨w3.heap.size, 0, none⟩ (.string r')) c x len cap) ∧
        ((W.setCell ⟨w3.heap.size, 1, none⟩ (.int .i64 k')).heap[w3.heap.size]? = some (.cells #[.string r, .int .i64 k'] 45 (0, 0)) ∧ (W.setCell ⟨w3.heap.size, 1, none⟩ (.int .i64 k')).heap[w.heap.size]? = some (.cells #[.string ⟨#[]⟩, .int .i64 0] 45 (0, 0)) ∧ Upto c w (W.setCell ⟨w3.heap.size, 1, none⟩ (.int .i64 k')) ∧ Cur (W.setCell ⟨w3.heap.size, 1, none⟩ (.int .i64 k')) c x len cap) := fun W r r' k k' h1 h2 h3 h4 h5 => by
      have b0 := (Upto.refl w3.heap.size W).setCell ⟨w3.heap.size, 0, none⟩ (.inl rfl) (.string r')
      have b1 := (Upto.refl w3.heap.size W).setCell ⟨w3.heap.size, 1, none⟩ (.inl rfl) (.int .i64 k')
      exact ⟨⟨set_0 h1 _, (b0.block _ (by omega) (by omega)).trans h2, h3.setCell _ (.inr (Nat.le_of_lt hFR)) _, h4.same (b0.toBelow h4.lt (by omega))⟩,
        ⟨set_1 h1 _, (b1.block _ (by omega) (by omega)).trans h2, h3.setCell _ (.inr (Nat.le_of_lt hFR)) _, h4.same (b1.toBelow h4.lt (by omega))⟩⟩
    have HFin2 : Hid _ := fin2
    clear fin2
    rcases hmm with rfl | rfl | rfl
    · go_wp2_with fail
      refine (drawBytes_any _ x len cap 5 _ (by omega) (by omega) k6).mono ?_
      rintro e w7 ⟨t, rfl, ht, u7, k7⟩
      replace kR := (u7.block _ (by omega) hne).trans kR
      replace kF := (u7.block _ sF hneF).trans kF
      replace sF := Nat.lt_of_lt_of_le sF u7.size
      replace u := u.trans u7
      clear u7 k6
      obtain ⟨⟨e1, e2, e3, e4⟩, _⟩ := HFin2.out w7 nr t nk 0 kF kR u k7 sF
      have a0 := at_cell kF 0
      have a1 := at_cell kF 1
      have g0 := at_open kF 0
      have g1 := at_open kF 1
      have p0 := at_cell e1 0
      have p1 := at_cell e1 1
      have q0 := at_cell e2 0
      have q1 := at_cell e2 1
      have f0 := at_open e2 0
      have f1 := at_open e2 1
      have HS : Hid _ := HFin.out _ t nk e2 e3 e4
      clear e1 e2 e3 e4 kF kR u k7 HFin HFin2
      go_wp2_with fail
      exact bodyPost_ret (v := .agg #[.string t, .int .i64 nk]) (by simp [results, Try.results72, go_sem, at_cell HS.out.1]) rfl ⟨t, nk, rfl, by omega, by omega, by omega, HS.out.2⟩
    · go_wp2_with fail
      refine (below_any _ x len cap 2 _ (by omega) k6).mono ?_
      rintro e w7 ⟨m2, rfl, hm2, u7, k7⟩
      replace kR := (u7.block _ (by omega) hne).trans kR
      replace kF := (u7.block _ sF hneF).trans kF
      replace sF := Nat.lt_of_lt_of_le sF u7.size
      replace u := u.trans u7
      have hm22 : m2 = 0 ∨ m2 = 1 := by omega
      clear u7 k6 hm2
      have hm2a : 0 ≤ m2 := by omega
      have hm2b : m2 ≤ 1 := by omega
      obtain ⟨n2, hn2, hn3⟩ : ∃ n : Nat, (61 : Int) + m2 = n ∧ n ≤ 62 := ⟨(61 + m2).toNat, by omega, by omega⟩
      obtain ⟨M, zs, hzs, hMb, hmk, hcv, _⟩ := made_bytes n2 (by omega)
      have b8 := (hMb w7).1
      have hzb : zs.size ≤ 62 := by omega
      have kR8 := (b8.block _ (by omega)).trans kR
      have kF8 := (b8.block _ sF).trans kF
      have u8 := u.below b8
      have k8 := k7.below b8
      have sF8 := Nat.lt_of_lt_of_le sF b8.size
      have ht : ((⟨#[165, 60]⟩ : ByteArray) ++ zs).size ≤ 64 := by rw [ByteArray.size_append, hzs]; show 2 + n2 ≤ 64; omega
      obtain ⟨t, hte⟩ : ∃ t, (⟨#[165, 60]⟩ : ByteArray) ++ zs = t := ⟨_, rfl⟩
      rw [hte] at ht
      obtain ⟨⟨e1, e2, e3, e4⟩, _⟩ := HFin2.out (M w7) nr t nk 0 kF8 kR8 u8 k8 sF8
      have a0 := at_cell kF8 0
      have a1 := at_cell kF8 1
      have g0 := at_open kF8 0
      have g1 := at_open kF8 1
      have p0 := at_cell e1 0
      have p1 := at_cell e1 1
      have q0 := at_cell e2 0
      have q1 := at_cell e2 1
      have f0 := at_open e2 0
      have f1 := at_open e2 1
      have HS : Hid _ := HFin.out _ t nk e2 e3 e4
      clear e1 e2 e3 e4 kF kR u k7 kF8 kR8 u8 k8 sF8 hzs hm22 hMb b8 HFin HFin2
      go_wp2_with fail
      exact bodyPost_ret (v := .agg #[.string t, .int .i64 nk]) (by simp [results, Try.results72, go_sem, at_cell HS.out.1]) rfl ⟨t, nk, rfl, by omega, by omega, by omega, HS.out.2⟩
    · go_wp2_with fail
      refine (below_any _ x len cap 3 _ (by omega) (k6.alloc _)).mono ?_
      rintro e w7 ⟨j, rfl, hj, u7, k7⟩
      obtain ⟨jn, rfl⟩ := Int.eq_ofNat_of_zero_le hj.1
      have hj3 : (jn : Int) < 3 := hj.2.1 (by omega)
      obtain ⟨kk, hkk, hkb⟩ : ∃ kk : Int, w7.cell? ⟨w6.heap.size, jn, none⟩ = some (.int .i64 kk) ∧ (-1 ≤ kk ∧ kk ≤ 1000001) := by
        rw [pick_cell u7 k6.lt jn]
        have h3 : jn = 0 ∨ jn = 1 ∨ jn = 2 := by omega
        rcases h3 with rfl | rfl | rfl
        · exact ⟨-1, rfl, by decide⟩
        · exact ⟨1000000, rfl, by decide⟩
        · exact ⟨1000001, rfl, by decide⟩
      have v7 := ((Upto.refl c w6).alloc (.cells #[.int .i64 (-1), .int .i64 1000000, .int .i64 1000001] 2)).trans u7
      replace kR := (v7.block _ (by omega) hne).trans kR
      replace kF := (v7.block _ sF hneF).trans kF
      replace sF := Nat.lt_of_lt_of_le sF v7.size
      replace u := u.trans v7
      clear u7 k6 hj v7
      obtain ⟨_, ⟨e1, e2, e3, e4⟩⟩ := HFin2.out w7 nr nr nk kk kF kR u k7 sF
      have a0 := at_cell kF 0
      have a1 := at_cell kF 1
      have g0 := at_open kF 0
      have g1 := at_open kF 1
      have p0 := at_cell e1 0
      have p1 := at_cell e1 1
      have q0 := at_cell e2 0
      have q1 := at_cell e2 1
      have f0 := at_open e2 0
      have f1 := at_open e2 1
      have HS : Hid _ := HFin.out _ nr kk e2 e3 e4
      clear e1 e2 e3 e4 kF kR u k7 HFin HFin2
      go_wp2_with fail
      exact bodyPost_ret (v := .agg #[.string nr, .int .i64 kk]) (by simp [results, Try.results72, go_sem, at_cell HS.out.1]) rfl ⟨nr, kk, rfl, by omega, by omega, by omega, HS.out.2⟩

set_option maxHeartbeats 3200000 in
theorem drawFed_any (x : Option Addr) (len cap : Nat) (w : World) (hs : Src w w.heap.size x len) :
    Calls Try.prog 34 #[.slice x len cap] w fun e w' => ∃ (r : ByteArray) (k : Int) (s : ByteArray), e = .returned (.tuple #[.agg #[.string r, .int .i64 k], .string s]) ∧ (r.size ≤ 64 ∧ -1 ≤ k ∧ k ≤ 1000001 ∧ s.size ≤ 1001) ∧ Below w.heap.size w w' := by
  obtain ⟨W0, hW0⟩ : ∃ W0, W0 = w.alloc (.cells #[.string ⟨#[]⟩, .int .i64 0] 45) := ⟨_, rfl⟩
  have kR : W0.heap[w.heap.size]? = some (.cells #[.string ⟨#[]⟩, .int .i64 0] 45 (0, 0)) := by rw [hW0]; exact heap_alloc_new w _
  have d : Below w.heap.size w W0 := by rw [hW0]; exact bw_alloc (Below.refl _ _)
  have sR : w.heap.size < W0.heap.size := by rw [hW0]; simp
  have hs0 : Src W0 W0.heap.size x len := (hs.below d).mono d.size
  have HW0 : Hid (W0 = _) := hW0
  clear hW0
  go_enter Try.func34, Try.ntmps34
  go_wp2_with fail
  rw [← HW0.out]
  clear HW0
  refine (new_any x len cap _ hs0).mono ?_
  rintro e w1 ⟨rfl, b1, k1⟩
  replace kR := (b1.block _ sR).trans kR
  have sc := k1.lt
  have hne : w.heap.size ≠ W0.heap.size := by omega
  have hRc : w.heap.size < W0.heap.size := sR
  replace d := bw_call d b1
  clear b1 hs0
  generalize W0.heap.size = c at *
  go_wp2_with fail
  refine (draw3_any _ x len cap _ k1).mono ?_
  rintro e w2 ⟨r, k, rfl, hr, hk0, hk1, u2, k2⟩
  replace kR := (u2.block _ (by omega) hne).trans kR
  replace d := d.trans (u2.toBelow (by omega) (by omega))
  have sc2 := k2.lt
  clear u2 k1
  -- the Feed's box
  have kF := heap_alloc_new w2 (.cells #[.string r, .int .i64 k] 45)
  have bF : Below w2.heap.size w2 (w2.alloc (.cells #[.string r, .int .i64 k] 45)) := bw_alloc (Below.refl _ _)
  have sF : w2.heap.size < (w2.alloc (.cells #[.string r, .int .i64 k] 45)).heap.size := by simp
  replace kR := (bF.block _ (by omega)).trans kR
  replace d := bw_call d bF
  have k3 := k2.below bF
  clear k2 bF
  go_wp2_with fail
  generalize w2.alloc (.cells #[.string r, .int .i64 k] 45) = W3 at *
  refine (once_any _ x len cap 40 _ (by omega) k3).mono ?_
  rintro e w4 ⟨y, rfl, u4, k4⟩
  replace kR := (u4.block _ (by omega) hne).trans kR
  replace kF := (u4.block _ sF (by omega)).trans kF
  replace d := d.trans (u4.toBelow (by omega) (by omega))
  replace sF := Nat.lt_of_lt_of_le sF u4.size
  clear u4 k3 sR sc
  have S0 : w4.drew.cell? ⟨w2.heap.size, 0, none⟩ = some (.string r) ∧ w4.drew.cell? ⟨w2.heap.size, 1, none⟩ = some (.int .i64 k) := ⟨at_cell kF 0, at_cell kF 1⟩
  cases y
  · go_wp2_with fail
    go_region_held3 (fun w' => w'.cell? ⟨w2.heap.size, 0, none⟩ = some (.string r) ∧ w'.cell? ⟨w2.heap.size, 1, none⟩ = some (.int .i64 k))
      ((first | exact S0 | exact S5 | exact S7))
      ((go_at_call 65; refine (draw2_any _ x len cap _ k4.drew).mono ?_; rintro e w5 ⟨s, rfl, hsz, u5, k5⟩; have kR5 := (u5.block _ (by show _ < w4.heap.size; omega) hne).trans kR; have kF5 := (u5.block _ sF (by omega)).trans kF; have S5 := And.intro (at_cell kF5 0) (at_cell kF5 1); have q0 := at_cell kR5 0; have q1 := at_cell kR5 1; have f0 := at_open kR5 0; have f1 := at_open kR5 1; obtain ⟨hR6, u6⟩ := set_two kR5 (.string r) (.int .i64 k); have kF6 := (u6.block _ (Nat.lt_of_lt_of_le sF u5.size) (by omega)).trans kF5; have S7 := And.intro (at_cell kF6 0) (at_cell kF6 1)))
    have d5 := ((bw_drew d).trans (Upto.toBelow (w' := w5) (w := w4.drew) u5 (by show _ ≤ w4.heap.size; omega) (Nat.le_of_lt hRc)))
    have d6 := d5.trans (u6.toBelow (by have := u5.size; have h4 : w4.drew.heap.size = w4.heap.size := rfl; omega) (Nat.le_refl _))
    have HS : Hid _ := And.intro hR6 d6
    clear hR6 d6 d5 u6 u5 k5 kR5 kF5 kF6 S5 S7 S0 kR kF k4 d
    go_wp2_with fail
    exact bodyPost_ret (v := .tuple #[.agg #[.string r, .int .i64 k], .string s]) (by simp [results, Try.results34, go_sem, at_cell HS.out.1]) rfl ⟨r, k, s, rfl, ⟨hr, hk0, hk1, by omega⟩, HS.out.2⟩
  · go_wp2_with fail
    go_region_law (go_simp; go_at_call 53; refine (below_any _ x len cap 2 _ (by omega) k4.drew).mono ?_; rintro e w5 ⟨m2, rfl, hm2, u5, k5⟩; have hm2a : 0 ≤ m2 := hm2.1; have hm2b : m2 ≤ 1 := (by have := hm2.2.1 (by omega); omega); obtain ⟨n2, hn2, hn3⟩ : ∃ n : Nat, (1000 : Int) + m2 = n ∧ n ≤ 1001 := ⟨(1000 + m2).toNat, by omega, by omega⟩; have hwn : IntKind.i64.wrap (n2 : Int) = n2 := (by rw [IntKind.wrap_i64]; omega); obtain ⟨M, s, hzs, hMb, hmk, hcv, hcw⟩ := made_bytes n2 (by omega); have b6 := (hMb w5).1; have s5 : w4.heap.size ≤ w5.heap.size := u5.size; have kR5 := (u5.block _ (by show _ < w4.heap.size; omega) hne).trans kR; have kR6 := (b6.block _ (by omega)).trans kR5; have q50 := at_cell kR5 0; have q51 := at_cell kR5 1; have f50 := at_open kR5 0; have f51 := at_open kR5 1; obtain ⟨hR8, u8⟩ := set_two kR5 (.string r) (.int .i64 k); have kF5 := (u5.block _ sF (by omega)).trans kF; have kF6 := (b6.block _ (by omega)).trans kF5; have S5 := And.intro (at_cell kF5 0) (at_cell kF5 1); have S6 := And.intro (at_cell kF6 0) (at_cell kF6 1); have q0 := at_cell kR6 0; have q1 := at_cell kR6 1; have f0 := at_open kR6 0; have f1 := at_open kR6 1; obtain ⟨hR7, u7⟩ := set_two kR6 (.string r) (.int .i64 k); have hM5 : w5.heap.size < (M w5).heap.size := (hMb w5).2; have hcv7 := hcw w5 _ (u7.block _ hM5 (by omega)); clear hcw; have kF7 := (u7.block _ (by have := b6.size; omega) (by omega)).trans kF6; have S7 := And.intro (at_cell kF7 0) (at_cell kF7 1); have kF8 := (u8.block _ (by omega) (by omega)).trans kF5; have S8 := And.intro (at_cell kF8 0) (at_cell kF8 1); have b9 := (hMb ((w5.setCell ⟨w.heap.size, 0, none⟩ (.string r)).setCell ⟨w.heap.size, 1, none⟩ (.int .i64 k))).1; have kF9 := (b9.block _ (by have := u8.size; omega)).trans kF8; have S9 := And.intro (at_cell kF9 0) (at_cell kF9 1); have hR9 := (b9.block _ (by have := u8.size; omega)).trans hR8; have hcv9 := hcv ((w5.setCell ⟨w.heap.size, 0, none⟩ (.string r)).setCell ⟨w.heap.size, 1, none⟩ (.int .i64 k)); rw [World.size_setCell, World.size_setCell] at hcv9; dsimp only)
    all_goals
      have d5 := ((bw_drew d).trans (Upto.toBelow (w' := w5) (w := w4.drew) u5 (by show _ ≤ w4.heap.size; omega) (Nat.le_of_lt hRc)))
      have d7 := (bw_call d5 b6).trans (u7.toBelow (by have := b6.size; omega) (Nat.le_refl _))
      have d9 := bw_call (d5.trans (u8.toBelow (by omega) (Nat.le_refl _))) b9
      have HS : Hid _ := And.intro hR7 (And.intro d7 (And.intro hR9 d9))
      have hzb : s.size ≤ 1001 := by omega
      clear hR7 d5 d7 d9 u7 u5 k5 b6 b9 u8 hR8 hR9 kR5 kR6 kF5 kF6 kF7 kF8 kF9 S5 S6 S7 S8 S9 S0 kR kF k4 d hMb hzs hM5 hcv7 hcv9 hcv hmk q50 q51 f50 f51 q0 q1 f0 f1
      go_wp2_with fail
      first
      | exact bodyPost_ret (v := .tuple #[.agg #[.string r, .int .i64 k], .string s]) (by simp [results, Try.results34, go_sem, at_cell HS.out.1]) rfl ⟨r, k, s, rfl, ⟨hr, hk0, hk1, hzb⟩, HS.out.2.1⟩
      | exact bodyPost_ret (v := .tuple #[.agg #[.string r, .int .i64 k], .string s]) (by simp [results, Try.results34, go_sem, at_cell HS.out.2.2.1]) rfl ⟨r, k, s, rfl, ⟨hr, hk0, hk1, hzb⟩, HS.out.2.2.2⟩

end Go.Proofs.Ytbjkbhchcoabcaa
