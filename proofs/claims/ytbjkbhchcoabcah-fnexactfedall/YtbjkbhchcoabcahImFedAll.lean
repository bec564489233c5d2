/-
  The program's FedAll at every argument.
-/
import Derived.Test.YtbjkbhchcoabcahFedAll
import Derived.Test.YtbjkbhchcoabcahImFed
namespace Go.Proofs.Ytbjkbhchcoabcah
open Go.RowKit
set_option linter.unusedVariables false
set_option maxRecDepth 100000

/-- Pieces that may be fed. -/
def piecesB (ps : List ByteArray) : Bool := decide (ps.length ≤ 50 ∧ ∀ p ∈ ps, p.size ≤ 1000)
theorem piecesB_yes {ps : List ByteArray} (h : piecesB ps = true) : ps.length ≤ 50 ∧ ∀ p ∈ ps, p.size ≤ 1000 := of_decide_eq_true h
theorem piecesB_no {ps : List ByteArray} (h : piecesB ps = false) : ¬ (ps.length ≤ 50 ∧ ∀ p ∈ ps, p.size ≤ 1000) := of_decide_eq_false h

theorem pieces_any (pv : Value) (ps : List ByteArray) (w : World) (B : Nat) (hp : Reads B w pv (ps.map Value.string)) :
    Calls Try.prog 41 #[pv] w fun e w' => e = .returned (.bool (piecesB ps)) ∧ w' = w := by
  obtain ⟨o, cap, rfl, hm, hcells, -⟩ := hp
  have HC : Hid (∀ j u, (ps.map Value.string)[j]? = some u → ∃ g off, o = some ⟨g, off, none⟩ ∧ g < B ∧ w.cell? ⟨g, off + j, none⟩ = some u) := hcells
  have hl : (ps.map Value.string).length = ps.length := by simp
  rw [hl] at hm ⊢
  unfold maxLen at hm
  clear hcells hl
  by_cases hlen : (50 : Int) < (ps.length : Int)
  · have HV : Hid (piecesB ps = false) := decide_eq_false (fun h => by omega)
    go_enter Try.func41, Try.ntmps41
    go_wp2_with fail
    go_ret
    exact ⟨ret_bool HV.out.symm, rfl⟩
  · go_enter Try.func41, Try.ntmps41
    go_wp2_with fail
    go_loopw [10] (fun q wr => ∃ (i : Nat), i ≤ ps.length ∧ q = .int .i64 i ∧ (∀ p ∈ ps.take i, p.size ≤ 1000) ∧ wr = w) (fun q _ => ps.length - (intOf q).toNat)
    case atStart => exact ⟨0, Nat.zero_le _, rfl, by simp, rfl⟩
    case round =>
      obtain ⟨i, hik, rfl, hall, rfl⟩ := hrel
      have HALL : Hid (∀ p ∈ ps.take i, p.size ≤ 1000) := hall
      clear hall
      by_cases hlt : i < ps.length
      · obtain ⟨g, off, rfl, hg, hx⟩ := HC.out i (.string ps[i]) (by simp [hlt])
        have htk : ps.take (i + 1) = ps.take i ++ [ps[i]] := List.take_succ_eq_append_getElem hlt
        have HNo : Hid (1000 < ps[i].size → piecesB ps = false) := fun hb => decide_eq_false (fun h => by have := h.2 ps[i] (List.getElem_mem hlt); omega)
        have HTK : Hid (ps[i].size ≤ 1000 → ∀ p ∈ ps.take (i + 1), p.size ≤ 1000) := fun hb p hp => by
          rw [htk] at hp
          rcases List.mem_append.1 hp with h | h
          · exact HALL.out p h
          · simp at h; rw [h]; exact hb
        clear htk
        generalize ps[i] = x at hx HNo HTK
        by_cases hbig : (1000 : Int) < (x.size : Int)
        · have HV : Hid (piecesB ps = false) := HNo.out (by omega)
          go_wp2_with fail
          go_ret
          exact ⟨ret_bool HV.out.symm, rfl⟩
        · have HV := HTK.out (by omega)
          have HV2 : Hid _ := HV
          clear HV
          go_wp2_with fail
          go_roundw
          case rel => exact ⟨i + 1, by omega, by go_num, HV2.out, by trivial⟩
          case measure => simp [intOf]; omega
      · have HV : Hid (piecesB ps = true) := decide_eq_true ⟨by omega, by have h := HALL.out; rw [List.take_of_length_le (by omega)] at h; exact h⟩
        go_wp2_with fail
        go_ret
        exact ⟨ret_bool HV.out.symm, rfl⟩

set_option maxHeartbeats 1600000 in
theorem implFedAll_no (r : ByteArray) (pv : Value) (ps : List ByteArray) (k : Int) (w : World) (hr : r.size ≤ 1099511627776) (hp : Reads w.heap.size w pv (ps.map Value.string)) (hno : feedOk r k = false ∨ piecesB ps = false) :
    Calls Try.prog 24 #[.agg #[.string r, .int .i64 k], pv] w fun e w' => ∃ v : Value, e = .returned (.tuple #[.agg #[.string ByteArray.empty, .int .i64 0], v]) ∧ w'.ownsRow w.heap.size 9 1 v 0 [] ∧ v ≠ .slice none 0 0 ∧ Below w.heap.size w w' := by
  obtain ⟨W0, hW0, c0, c1, bd0, sz0⟩ := two_start w (.string r) (.int .i64 k) (.string ⟨#[]⟩) (.int .i64 0) 32
  have HW0 : Hid (W0 = _) := hW0
  clear hW0
  go_enter Try.func24, Try.ntmps24
  go_wp2_with fail
  rw [← HW0.out]
  clear HW0
  refine (implFeedOk_any r k _ hr).mono ?_
  rintro e w1 ⟨rfl, b1⟩
  have sz1 : w.heap.size + 1 < w1.heap.size := by have := b1.size; omega
  have k1 : w1.heap[w.heap.size + 1]? = some (.cells #[.string ⟨#[]⟩, .int .i64 0] 32 (0, 0)) := (b1.block _ (by omega)).trans c1
  have kA : (w1.alloc (.cells #[] 9)).heap[w.heap.size + 1]? = some (.cells #[.string ⟨#[]⟩, .int .i64 0] 32 (0, 0)) := (Below.heap_alloc _ _ _ sz1).trans k1
  have q0 := at_cell kA 0
  have q1 := at_cell kA 1
  have f0 := at_open kA 0
  have f1 := at_open kA 1
  have q2 := at_cell k1 0
  have q3 := at_cell k1 1
  have f2 := at_open k1 0
  have f3 := at_open k1 1
  obtain ⟨e1, e2, e3⟩ := nothing_end k1 (show w.heap.size ≤ w.heap.size + 1 by omega) (.string ⟨#[]⟩) (.int .i64 0) 9
  have e3 := (bd0.trans (b1.mono bd0.size)).trans e3
  have HS : Hid _ := And.intro e1 (And.intro e2 e3)
  have hrd := Reads.below hp (bd0.trans (b1.mono bd0.size))
  clear e1 e2 e3 c0 c1 k1 kA b1
  cases hok : feedOk r k
  · go_wp2_with fail
    exact bodyPost_ret (v := .tuple #[.agg #[.string ByteArray.empty, .int .i64 0], .slice (some ⟨w1.heap.size, 0, none⟩) 0 0]) (by simp [results, Try.results24, go_sem, at_cell HS.out.1]; rfl) rfl ⟨_, rfl, HS.out.2.1, by simp, HS.out.2.2⟩
  · have hpb : piecesB ps = false := by
      rcases hno with h | h
      · rw [hok] at h; cases h
      · exact h
    go_wp2_with fail
    refine (pieces_any pv ps _ _ hrd).mono ?_
    rintro e w2 ⟨rfl, rfl⟩
    rw [hpb]
    go_wp2_with fail
    exact bodyPost_ret (v := .tuple #[.agg #[.string ByteArray.empty, .int .i64 0], .slice (some ⟨w2.heap.size, 0, none⟩) 0 0]) (by simp [results, Try.results24, go_sem, at_cell HS.out.1]; rfl) rfl ⟨_, rfl, HS.out.2.1, by simp, HS.out.2.2⟩

/-- What is read of a block of two cells, and where one more was laid behind it. -/
theorem box_facts {W : World} {b : Nat} {x y : Value} {t : TypeId} (h : W.heap[b]? = some (.cells #[x, y] t (0, 0))) (o : Obj) :
    W.cell? ⟨b, 0, none⟩ = some x ∧ W.cell? ⟨b, 1, none⟩ = some y ∧ W.frozen? ⟨b, 0, none⟩ = false ∧ W.frozen? ⟨b, 1, none⟩ = false ∧ b < W.heap.size ∧
    (W.alloc o).cell? ⟨b, 0, none⟩ = some x ∧ (W.alloc o).cell? ⟨b, 1, none⟩ = some y ∧ (W.alloc o).frozen? ⟨b, 0, none⟩ = false ∧ (W.alloc o).frozen? ⟨b, 1, none⟩ = false := by
  obtain ⟨hlt, -⟩ := Array.getElem?_eq_some_iff.1 h
  have h2 : (W.alloc o).heap[b]? = some (.cells #[x, y] t (0, 0)) := (Below.heap_alloc _ _ _ hlt).trans h
  exact ⟨at_cell h 0, at_cell h 1, at_open h 0, at_open h 1, hlt, at_cell h2 0, at_cell h2 1, at_open h2 0, at_open h2 1⟩
theorem box_first (W : World) (o1 o2 : Obj) : ((W.alloc o1).alloc o2).heap[W.heap.size]? = some o1 := (Below.heap_alloc _ _ _ (by simp)).trans (heap_alloc_new W o1)
theorem box_second (W : World) (o1 o2 : Obj) : ((W.alloc o1).alloc o2).heap[W.heap.size + 1]? = some o2 := by
  have h := heap_alloc_new (W.alloc o1) o2
  rwa [show (W.alloc o1).heap.size = W.heap.size + 1 by simp] at h

/-- A row is never a block of another type. -/
theorem row_apart {w : World} {base : Nat} {e : TypeId} {size : Nat} {v : Value} {n : Nat} {xs : List Value} {b : Nat} {cs : Array Value} {t : TypeId} {fz : Nat × Nat} (h : w.ownsRow base e size v n xs) (hb : w.heap[b]? = some (.cells cs t fz)) (ht : t ≠ e) : some b ≠ v.ownBlock := by
  rcases h.2 with ⟨rfl, _⟩ | ⟨g, cap, cur, rfl, hg, hh, r⟩
  · simp [Value.ownBlock]
  · intro he
    simp [Value.ownBlock] at he
    subst he
    rw [hb] at hh
    simp at hh
    exact ht hh.2.1
theorem row_upto {w w' : World} {base : Nat} {e : TypeId} {size : Nat} {v : Value} {n : Nat} {xs : List Value} {b : Nat} {cs : Array Value} {t : TypeId} {fz : Nat × Nat} (h : w.ownsRow base e size v n xs) (hb : w.heap[b]? = some (.cells cs t fz)) (ht : t ≠ e) (u : Upto b w w') : w'.ownsRow base e size v n xs := by
  have hne := row_apart h hb ht
  obtain ⟨h1, h2⟩ := h
  refine ⟨h1, ?_⟩
  rcases h2 with h2 | ⟨g, cap, cur, rfl, hg, hh, r⟩
  · exact Or.inl h2
  · obtain ⟨hlt, -⟩ := Array.getElem?_eq_some_iff.1 hh
    have hgb : g ≠ b := fun e => hne (by simp [Value.ownBlock, e])
    exact Or.inr ⟨g, cap, cur, rfl, hg, by rw [u.block g hlt hgb]; exact hh, r⟩

set_option maxHeartbeats 3200000 in
theorem implFedAll_yes (r : ByteArray) (pv : Value) (ps : List ByteArray) (k : Int) (w : World) (hok : feedOk r k = true) (hpb : piecesB ps = true) (hp : Reads w.heap.size w pv (ps.map Value.string)) :
    Calls Try.prog 24 #[.agg #[.string r, .int .i64 k], pv] w fun e w' => ∃ v : Value, e = .returned (.tuple #[.agg #[.string (fedAll r k ps).1.1, .int .i64 (fedAll r k ps).1.2], v]) ∧ w'.ownsRow w.heap.size 9 1 v (fedAll r k ps).2.length ((fedAll r k ps).2.map Value.string) ∧ v ≠ .slice none 0 0 ∧ Below w.heap.size w w' := by
  obtain ⟨i0, hi, hz0, hz1, hz2⟩ := info_parts Try.infoStr
  obtain ⟨hr, hk0, hk1, _⟩ := feedOk_bd r k hok
  obtain ⟨hlen, hpz⟩ := piecesB_yes hpb
  have HP : Hid (Reads w.heap.size w pv (ps.map Value.string)) := hp
  obtain ⟨o, cap, rfl, hm, hcells, -⟩ := hp
  have HC : Hid (∀ j u, (ps.map Value.string)[j]? = some u → ∃ g off, o = some ⟨g, off, none⟩ ∧ g < w.heap.size ∧ w.cell? ⟨g, off + j, none⟩ = some u) := hcells
  have HZ : Hid (∀ p ∈ ps, p.size ≤ 1000) := hpz
  have hl : (ps.map Value.string).length = ps.length := by simp
  rw [hl] at hm HP ⊢
  unfold maxLen at hm
  clear hcells hl hpz
  obtain ⟨W0, hW0, c0, c1, bd0, sz0⟩ := two_start w (.string r) (.int .i64 k) (.string ⟨#[]⟩) (.int .i64 0) 32
  have HW0 : Hid (W0 = _) := hW0
  clear hW0
  go_enter Try.func24, Try.ntmps24
  go_wp2_with fail
  rw [← HW0.out]
  clear HW0
  refine (implFeedOk_any r k _ (by omega)).mono ?_
  rintro e w1 ⟨rfl, b1⟩
  rw [hok]
  have k0 : w1.heap[w.heap.size]? = some (.cells #[.string r, .int .i64 k] 32 (0, 0)) := (b1.block _ (by omega)).trans c0
  have k1 : w1.heap[w.heap.size + 1]? = some (.cells #[.string ⟨#[]⟩, .int .i64 0] 32 (0, 0)) := (b1.block _ (by omega)).trans c1
  have bd1 := bd0.trans (b1.mono bd0.size)
  have sz1 : w.heap.size + 1 + 1 ≤ w1.heap.size := by have := b1.size; omega
  have hrd := Reads.below HP.out bd1
  clear c0 c1 bd0 sz0 b1
  go_wp2_with fail
  refine (pieces_any _ ps _ _ hrd).mono ?_
  rintro e w2 ⟨rfl, rfl⟩
  rw [hpb]
  go_wp2_with fail
  rename_i K hK
  have HKK : Hid _ := hK
  clear hK
  have key : ∀ (b6 g7 : Nat) (W : World), W.heap[b6]? = some (.cells #[.string r, .int .i64 k] 32 (0, 0)) → W.heap[g7]? = some (.cells #[] 9 (0, 0)) → w2.heap.size ≤ b6 → w2.heap.size ≤ g7 → Below w2.heap.size w2 W → K { tmps := #[.agg #[.string r, .int .i64 k], .slice o ps.length cap, .pointer (some ⟨w.heap.size, 0, none⟩), undef, .pointer (some ⟨w.heap.size + 1, 0, none⟩), .slice none 0 0, .pointer (some ⟨b6, 0, none⟩), .slice (some ⟨g7, 0, none⟩) 0 0, undef, undef, undef, undef, .agg #[.string r, .int .i64 k], .bool true, .bool false, .bool false, .slice o ps.length cap, .bool true, .bool false, .bool false, undef, undef, .pointer (some ⟨w.heap.size, 0, none⟩), .string r, .string r, .pointer (some ⟨w.heap.size, 1, none⟩), .int .i64 k, .agg #[.string r, .int .i64 k], .slice (some ⟨g7, 0, none⟩) 0 0, undef, undef, undef, undef, undef, undef, undef, undef, undef, undef, undef, undef, undef, undef, undef, undef, undef, undef, undef], defers := [] } W := by
    intro b6 g7 W h6 h7 hb6 hg7 hbW
    have bdW : Below w.heap.size w W := bd1.trans (hbW.mono (by omega))
    have hA : W.heap[w.heap.size + 1]? = some (.cells #[.string ⟨#[]⟩, .int .i64 0] 32 (0, 0)) := (hbW.block _ (by omega)).trans k1
    have own0 : W.ownsRow w2.heap.size 9 1 (.slice (some ⟨g7, 0, none⟩) 0 0) 0 [] := ⟨rfl, .inr ⟨g7, 0, #[], rfl, hg7, h7, Nat.le_refl _, by decide, rfl, rfl⟩⟩
    have szW := hbW.size
    refine HKK.out _ _ ?_
    clear HKK k0 k1 bd1 hrd h7
    go_wp2_with fail
    go_loopw [7, 31] (fun v q wr => ∃ (i : Nat) (f : ByteArray × Int) (xs : List ByteArray), i ≤ ps.length ∧ q = .int .i64 i ∧ fedL (r, k) (ps.take i) = (f, xs) ∧ wr.heap[b6]? = some (.cells #[.string f.1, .int .i64 f.2] 32 (0, 0)) ∧ wr.heap[w.heap.size + 1]? = some (.cells #[.string ⟨#[]⟩, .int .i64 0] 32 (0, 0)) ∧ wr.ownsRow w2.heap.size 9 1 v xs.length (xs.map Value.string) ∧ v ≠ .slice none 0 0 ∧ Below w.heap.size w wr ∧ w2.heap.size ≤ wr.heap.size) (fun _ q _ => ps.length - (intOf q).toNat)
    case atStart => exact ⟨0, (r, k), [], Nat.zero_le _, rfl, rfl, h6, hA, own0, by simp, bdW, szW⟩
    case round =>
      obtain ⟨i, ⟨fr, fk⟩, xs, hik, rfl, hfl, hf0, hf1, own, hnv, hbw, hsw⟩ := hrel
      have hall : ∀ p ∈ ps.take i, p.size ≤ 1000 := fun p hp => HZ.out p (List.mem_of_mem_take hp)
      have hfo := fedL_ok (ps.take i) r k hok hall
      rw [hfl] at hfo
      simp only at hfo hf0
      obtain ⟨hfo1, hxl⟩ := hfo
      have hfbd := feedOk_bd fr fk hfo1
      have hxl2 : xs.length ≤ 53150 := by
        have : (ps.take i).length ≤ 50 := by rw [List.length_take]; omega
        omega
      have HNV : Hid (u7 ≠ Value.slice none 0 0) := hnv
      have HFL : Hid (fedL (r, k) (ps.take i) = ((fr, fk), xs)) := hfl
      clear hnv hfl hall hxl h6 hA own0 bdW
      by_cases hlt : i < ps.length
      · obtain ⟨g, off, rfl, hg, hx⟩ := HC.out i (.string ps[i]) (by simp [hlt])
        have hx1 : wr.cell? ⟨g, off + i, none⟩ = some (.string ps[i]) := (hbw.cell (p := ⟨g, off + i, none⟩) hg).trans hx
        have hxz := HZ.out ps[i] (List.getElem_mem hlt)
        have htk : ps.take (i + 1) = ps.take i ++ [ps[i]] := List.take_succ_eq_append_getElem hlt
        have HTK : Hid (fedL (r, k) (ps.take (i + 1)) = ((fed fr fk ps[i]).1, xs ++ (fed fr fk ps[i]).2)) := by
          rw [Hid, htk, fedL_snoc, HFL.out]
        clear hx htk
        generalize ps[i] = x at hx1 hxz HTK
        have q0 := at_cell hf0 0
        have q1 := at_cell hf0 1
        go_wp2_with fail
        refine (implFed_any fr x fk _ (by omega) (by omega)).mono ?_
        rintro e w5 ⟨v5, rfl, own5, hn5, b5⟩
        generalize hfd : fed fr fk x = fd at *
        obtain ⟨⟨nr, nk⟩, ys⟩ := fd
        simp only at own5 b5 ⊢
        go_wp2_with fail
        rename_i K2 hK2
        have HK2 : Hid _ := hK2
        clear hK2
        have hA : Below wr.heap.size wr (w5.alloc (.cells #[.string nr, .int .i64 nk] 32)) := bw_alloc b5
        have hX : (w5.alloc (.cells #[.string nr, .int .i64 nk] 32)).heap[w5.heap.size]? = some (.cells #[.string nr, .int .i64 nk] 32 (0, 0)) := heap_alloc_new w5 _
        have ownM : (w5.alloc (.cells #[.string nr, .int .i64 nk] 32)).ownsRow wr.heap.size 9 1 v5 ys.length (ys.map Value.string) := World.ownsRow.alloc own5 _
        generalize w5.alloc (.cells #[.string nr, .int .i64 nk] 32) = W6 at *
        have hn10 : wr.heap.size ≤ w5.heap.size := b5.size
        generalize w5.heap.size = n10 at *
        clear own5 b5
        have hsA := hA.size
        obtain ⟨hb6r, -⟩ := Array.getElem?_eq_some_iff.1 hf0
        have h60 : W6.heap[b6]? = some (.cells #[.string fr, .int .i64 fk] 32 (0, 0)) := (hA.block _ hb6r).trans hf0
        have h61 : W6.heap[w.heap.size + 1]? = some (.cells #[.string ⟨#[]⟩, .int .i64 0] 32 (0, 0)) := (hA.block _ (by omega)).trans hf1
        have own6 := owns_below own hA
        have bw6 : Below w.heap.size w W6 := hbw.trans (hA.mono (by omega))
        have x0 := at_cell hX 0
        have x1 := at_cell hX 1
        have y0 := at_cell h60 0
        have y1 := at_cell h60 1
        have g0 := at_open h60 0
        have g1 := at_open h60 1
        obtain ⟨h70, u7'⟩ := set_two h60 (.string nr) (.int .i64 nk)
        have own7 := row_upto own6 h60 (by decide) u7'
        have ownM7 := row_upto ownM h60 (by decide) u7'
        have hyl : ys.length ≤ 1063 := by have := (fed_ok fr x fk hfo1 hxz).2; rw [hfd] at this; exact this
        rcases ownM.2 with ⟨hbad, _⟩ | ⟨g5, cap5, cur5, rfl, hg5, hh5, hle5, _⟩
        · exact absurd hbad hn5
        have hc6 := ownM.cells (g := g5) rfl
        have hc7 := ownM7.cells (g := g5) rfl
        have key2 : ∀ (v8 : Value) (W8 : World), W8.ownsRow w2.heap.size 9 1 v8 (xs.length + ys.length) (xs.map Value.string ++ ys.map Value.string) → v8 ≠ .slice none 0 0 → W8.heap[b6]? = some (.cells #[.string nr, .int .i64 nk] 32 (0, 0)) → W8.heap[w.heap.size + 1]? = some (.cells #[.string ⟨#[]⟩, .int .i64 0] 32 (0, 0)) → Below w.heap.size w W8 → w2.heap.size ≤ W8.heap.size → K2 { tmps := #[.agg #[.string r, .int .i64 k], .slice (some ⟨g, off, none⟩) ps.length cap, .pointer (some ⟨w.heap.size, 0, none⟩), undef, .pointer (some ⟨w.heap.size + 1, 0, none⟩), .slice none 0 0, .pointer (some ⟨b6, 0, none⟩), v8, undef, .string x, .pointer (some ⟨n10, 0, none⟩), (.slice (some ⟨g5, 0, none⟩) ys.length cap5), .agg #[.string r, .int .i64 k], .bool true, .bool false, .bool false, .slice (some ⟨g, off, none⟩) ps.length cap, .bool true, .bool false, .bool false, undef, undef, .pointer (some ⟨w.heap.size, 0, none⟩), .string r, .string r, .pointer (some ⟨w.heap.size, 1, none⟩), .int .i64 k, .agg #[.string r, .int .i64 k], .slice (some ⟨g7, 0, none⟩) 0 0, .slice (some ⟨g, off, none⟩) ps.length cap, .int .i64 (ps.length : Int), .int .i64 (i : Int), .bool true, .pointer (some ⟨g, off + i, none⟩), .string x, .tuple #[.agg #[.string nr, .int .i64 nk], (.slice (some ⟨g5, 0, none⟩) ys.length cap5)], .agg #[.string fr, .int .i64 fk], .string x, .tuple #[.agg #[.string nr, .int .i64 nk], (.slice (some ⟨g5, 0, none⟩) ys.length cap5)], .agg #[.string nr, .int .i64 nk], (.slice (some ⟨g5, 0, none⟩) ys.length cap5), .agg #[.string nr, .int .i64 nk], u7, (.slice (some ⟨g5, 0, none⟩) ys.length cap5), v8, u45, undef, undef], defers := [] } W8 := by
          intro v8 W8 o8 n8 a8 c8 d8 s8
          refine HK2.out _ _ ?_
          have HQ : Hid _ := And.intro o8 (And.intro n8 (And.intro a8 (And.intro c8 (And.intro d8 s8))))
          clear o8 n8 a8 c8 d8 HK2 own own6 own7 ownM ownM7 hc6 hc7 h60 h61 h70 u7' hf0 hf1 hX bw6
          go_wp2_with fail
          go_roundw
          case rel =>
            obtain ⟨e0, e1, e2, e3, e4, e5⟩ := HQ.out
            exact ⟨i + 1, (nr, nk), xs ++ ys, by omega, by go_num, HTK.out, e2, e3, by simpa using e0, e1, e4, e5⟩
          case measure => simp [intOf]; omega
        have hsz6 : w2.heap.size ≤ W6.heap.size := by omega
        have hb6s : b6 < W6.heap.size := by omega
        have hwA : w.heap.size + 1 < W6.heap.size := by omega
        obtain ⟨hn10s, -⟩ := Array.getElem?_eq_some_iff.1 hX
        clear HK2 hn5 hh5 hg5 hle5
        go_region_law (
          (refine step_append rfl (.tmp 42) (.tmp 43) 22 rfl w2.heap.size 9 i0 (.string ByteArray.empty) 1 16 Try.underlying22 hi hz0 hz1 hz2 rfl (by decide) u7 xs.length (xs.map Value.string) ?e1 ?own ⟨g5, 0, none⟩ ys.length cap5 (ys.map Value.string) ?e2 ?hl ?hn ?h1 ?h63 ?hb ?hbase ?_
           case e1 => first | rfl | simp [Act.eval, Act.put]
           case e2 => first | rfl | simp [Act.eval, Act.put]
           case own => first | exact own6 | exact own7
           case hl => simp
           case hn => first | exact hc6 | exact hc7
           case h1 => intro u hu; simp at hu; obtain ⟨y, _, rfl⟩ := hu; rfl
           case h63 => unfold maxLen; omega
           case hb => omega
           case hbase => first | exact hsz6 | exact Nat.le_trans hsz6 u7'.size
           intro v8 w8 own8 grow8 nil8
           (first
             | (have k8 : w8.heap[b6]? = some (.cells #[.string fr, .int .i64 fk] 32 (0, 0)) := (grow8.block b6 hb6s (row_apart own6 h60 (by decide))).trans h60
                have x8 : w8.heap[n10]? = some (.cells #[.string nr, .int .i64 nk] 32 (0, 0)) := (grow8.block n10 hn10s (row_apart own6 hX (by decide))).trans hX
                have m0 := at_cell x8 0
                have m1 := at_cell x8 1
                have m2 := at_cell k8 0
                have m3 := at_cell k8 1
                have m4 := at_open k8 0
                have m5 := at_open k8 1)
             | skip)))
        all_goals obtain ⟨s8, u8⟩ := set_two k8 (.string nr) (.int .i64 nk)
        all_goals have own9 := row_upto own8 k8 (by decide) u8
        all_goals have z8 := grow8.size
        all_goals have z6 : W6.heap.size ≤ w8.heap.size := z8
        all_goals have a8 : w8.heap[w.heap.size + 1]? = some (.cells #[.string ⟨#[]⟩, .int .i64 0] 32 (0, 0)) := (grow8.block _ hwA (row_apart own6 h61 (by decide))).trans h61
        all_goals have a9 := (u8.block (w.heap.size + 1) (by omega) (by omega)).trans a8
        all_goals have hrow := fun q hq => (own6.lt q hq).1
        all_goals have bw8 : Below w.heap.size w w8 := (bw_drew bw6).grown grow8 bw6.size (fun q hq => by have := hrow q hq; omega)
        all_goals have bw9 := bw8.trans (u8.toBelow (B := w.heap.size) bw8.size (by omega))
        all_goals have sz9 := u8.size
        all_goals exact key2 v8 _ own9 (fun h => HNV.out (nil8.1 h).1) s8 a9 bw9 (by omega)
      · have hi2 : i = ps.length := by omega
        have HE : Hid (fedAll r k ps = ((fr, fk), xs)) := by
          have h2 := HFL.out
          rw [List.take_of_length_le (by omega)] at h2
          rw [Hid, fedAll_yes r k ps hok hlen HZ.out]
          exact h2
        have q0 := at_cell hf0 0
        have q1 := at_cell hf0 1
        have p0 := at_cell hf1 0
        have p1 := at_cell hf1 1
        have f0 := at_open hf1 0
        have f1 := at_open hf1 1
        obtain ⟨s1, u1⟩ := set_two hf1 (.string fr) (.int .i64 fk)
        have own3 := owns_mono (ownsRow_upto own u1 (by omega)) (show w.heap.size ≤ w2.heap.size by omega)
        have hfin := hbw.trans (u1.toBelow (B := w.heap.size) hbw.size (by omega))
        have HS : Hid _ := And.intro s1 (And.intro own3 hfin)
        clear s1 u1 own3 hfin own hf0 hf1
        go_wp2_with fail
        refine bodyPost_ret (v := .tuple #[.agg #[.string fr, .int .i64 fk], u7]) (by simp [results, Try.results24, go_sem, at_cell HS.out.1]) rfl ⟨u7, ?_, ?_, HNV.out, HS.out.2.2⟩
        · rw [HE.out]
        · rw [HE.out]
          exact HS.out.2.1
  have q0 := at_cell k0 0
  have q1 := at_cell k0 1
  have hsr : w.heap.size < w2.heap.size := by omega
  have HKeep : ∀ W', Below w2.heap.size w2 W' → (Below w2.heap.size w2 W' ∧ W'.cell? ⟨w.heap.size, 0, none⟩ = some (.string r) ∧ W'.cell? ⟨w.heap.size, 1, none⟩ = some (.int .i64 k)) := fun W' hb =>
    ⟨hb, (hb.cell (p := ⟨w.heap.size, 0, none⟩) hsr).trans q0, (hb.cell (p := ⟨w.heap.size, 1, none⟩) hsr).trans q1⟩
  go_region_held3 (fun w' => Below w2.heap.size w2 w' ∧ w'.cell? ⟨w.heap.size, 0, none⟩ = some (.string r) ∧ w'.cell? ⟨w.heap.size, 1, none⟩ = some (.int .i64 k))
    ((refine HKeep _ ?_; repeat (first | exact Below.refl _ _ | refine bw_drew ?_ | refine bw_alloc ?_ | refine bw_call ?_ b5 | refine bw_set ?_ (by first | exact Nat.le_refl _ | exact Nat.le_succ _ | (have := b5.size; simp at this ⊢; omega)) _)))
    ((go_at_call 42; refine (clone_any r _ (by omega)).mono ?_; rintro e w5 ⟨rfl, b5⟩; (first | (have k5 : w5.heap[w2.heap.size]? = some (.cells #[.string ⟨#[]⟩, .int .i64 0] 32 (0, 0)) := (b5.block _ (by simp)).trans (heap_alloc_new w2 _); obtain ⟨z1, z2, z3, z4, z5, z6, z7, z8, z9⟩ := box_facts k5 (.cells #[] 9)) | (have k5 : w5.heap[w2.heap.size]? = some (.cells #[.string ⟨#[]⟩, .int .i64 0] 32 (0, 0)) := (b5.block _ (by simp; omega)).trans (box_first w2 _ _); obtain ⟨z1, z2, z3, z4, z5, z6, z7, z8, z9⟩ := box_facts k5 (.cells #[] 9)) | (have k5 : w5.heap[w2.heap.size + 1]? = some (.cells #[.string ⟨#[]⟩, .int .i64 0] 32 (0, 0)) := (b5.block _ (by simp)).trans (box_second w2 _ _); obtain ⟨z1, z2, z3, z4, z5, z6, z7, z8, z9⟩ := box_facts k5 (.cells #[] 9)) | skip)))
  · rename_i hh; exact key _ _ _ (box_second w5 _ _) (box_first w5 _ _) (by have := b5.size; simp at this; omega) (by have := b5.size; simpa using this) hh.1
  · rename_i hh; exact key _ _ _ (box_first w5 _ _) (box_second w5 _ _) (by have := b5.size; simpa using this) (by have := b5.size; simp at this; omega) hh.1
  · rename_i hh; exact key _ _ _ (box_first w5 _ _) (box_second w5 _ _) (by have := b5.size; simpa using this) (by have := b5.size; simp at this; omega) hh.1
  · rename_i hh; exact key _ _ _ (heap_alloc_new w5 _) ((Below.heap_alloc _ _ _ (by have := b5.size; simp at this; omega)).trans ((b5.block _ (by simp)).trans (heap_alloc_new w2 _))) (by have := b5.size; simp at this; omega) (Nat.le_refl _) hh.1
  · rename_i hh
    obtain ⟨s5, u5⟩ := set_two k5 (.string r) (.int .i64 k)
    exact key _ _ _ s5 ((u5.block _ (by omega) (by omega)).trans ((b5.block _ (by simp; omega)).trans (box_first w2 _ _))) (Nat.le_succ _) (Nat.le_refl _) hh.1
  · rename_i hh
    obtain ⟨s5, u5⟩ := set_two k5 (.string r) (.int .i64 k)
    refine key w2.heap.size w5.heap.size _ ((Below.heap_alloc _ _ _ (by have := u5.size; omega)).trans s5) ?_ (Nat.le_refl _) (by omega) hh.1
    have h := heap_alloc_new ((w5.setCell ⟨w2.heap.size, 0, none⟩ (.string r)).setCell ⟨w2.heap.size, 1, none⟩ (.int .i64 k)) (.cells #[] 9)
    rwa [show ((w5.setCell ⟨w2.heap.size, 0, none⟩ (.string r)).setCell ⟨w2.heap.size, 1, none⟩ (.int .i64 k)).heap.size = w5.heap.size by simp] at h
  · rename_i hh
    obtain ⟨s5, u5⟩ := set_two k5 (.string r) (.int .i64 k)
    refine key w2.heap.size w5.heap.size _ ((Below.heap_alloc _ _ _ (by have := u5.size; omega)).trans s5) ?_ (Nat.le_refl _) (by omega) hh.1
    have h := heap_alloc_new ((w5.setCell ⟨w2.heap.size, 0, none⟩ (.string r)).setCell ⟨w2.heap.size, 1, none⟩ (.int .i64 k)) (.cells #[] 9)
    rwa [show ((w5.setCell ⟨w2.heap.size, 0, none⟩ (.string r)).setCell ⟨w2.heap.size, 1, none⟩ (.int .i64 k)).heap.size = w5.heap.size by simp] at h
  · rename_i hh
    obtain ⟨s5, u5⟩ := set_two k5 (.string r) (.int .i64 k)
    exact key _ _ _ s5 ((u5.block _ (by have := b5.size; simp at this; omega) (by omega)).trans ((b5.block _ (by simp)).trans (box_second w2 _ _))) (Nat.le_refl _) (Nat.le_succ _) hh.1

theorem implFedAll_any (r : ByteArray) (pv : Value) (ps : List ByteArray) (k : Int) (w : World) (hr : r.size ≤ 1099511627776) (hpz : ∀ p ∈ ps, p.size ≤ 1099511627776) (hp : Reads w.heap.size w pv (ps.map Value.string)) :
    Calls Try.prog 24 #[.agg #[.string r, .int .i64 k], pv] w fun e w' => ∃ v : Value, e = .returned (.tuple #[.agg #[.string (fedAll r k ps).1.1, .int .i64 (fedAll r k ps).1.2], v]) ∧ w'.ownsRow w.heap.size 9 1 v (fedAll r k ps).2.length ((fedAll r k ps).2.map Value.string) ∧ v ≠ .slice none 0 0 ∧ Below w.heap.size w w' := by
  by_cases h : feedOk r k = true ∧ piecesB ps = true
  · exact implFedAll_yes r pv ps k w h.1 h.2 hp
  · have hno : feedOk r k = false ∨ piecesB ps = false := by
      cases hk : feedOk r k
      · exact .inl rfl
      · cases hq : piecesB ps
        · exact .inr rfl
        · exact absurd ⟨hk, hq⟩ h
    rw [fedAll_no r k ps (fun q => h ⟨q.1, decide_eq_true q.2⟩)]
    exact implFedAll_no r pv ps k w hr hp hno

end Go.Proofs.Ytbjkbhchcoabcah
