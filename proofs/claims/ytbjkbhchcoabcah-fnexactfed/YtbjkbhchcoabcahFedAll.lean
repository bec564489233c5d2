/-
  Chapter 3: the specification's FedAll at every argument.
-/
import Derived.Test.YtbjkbhchcoabcahRows1
import Derived.Test.YtbjkbhchcoabcahFedL
import Derived.Test.YtbjkbhchcoabcahBend
import Derived.Deep.RegionHeld3
namespace Go.Proofs.Ytbjkbhchcoabcah
open Go.RowKit
set_option linter.unusedVariables false
set_option maxRecDepth 100000

set_option maxHeartbeats 1600000 in
theorem specFedAll_no (r : ByteArray) (pv : Value) (ps : List ByteArray) (k : Int) (w : World) (hr : r.size ≤ 1099511627776) (hp : Reads w.heap.size w pv (ps.map Value.string)) (hno : feedOk r k = false ∨ 50 < ps.length) :
    Calls Try.prog 22 #[.agg #[.string r, .int .i64 k], pv] w fun e w' => ∃ v : Value, e = .returned (.tuple #[.agg #[.string ByteArray.empty, .int .i64 0], v]) ∧ w'.ownsRow w.heap.size 9 1 v 0 [] ∧ v ≠ .slice none 0 0 ∧ Below w.heap.size w w' := by
  obtain ⟨o, cap, rfl, hm, hcells, -⟩ := hp
  have hl : (ps.map Value.string).length = ps.length := by simp
  rw [hl] at hm ⊢
  unfold maxLen at hm
  clear hcells hl
  obtain ⟨W0, hW0, c0, c1, own0, bd0, sz0⟩ := fed_start w r k
  have HW0 : Hid (W0 = _) := hW0
  clear hW0
  go_enter Try.func22, Try.ntmps22
  go_wp2_with fail
  rw [← HW0.out]
  clear HW0
  refine (specFeedOk_any r k _ hr).mono ?_
  rintro e w1 ⟨rfl, b1⟩
  have k1 : w1.heap[w.heap.size + 1]? = some (.cells #[.string ⟨#[]⟩, .int .i64 0] 32 (0, 0)) := (b1.block _ (by omega)).trans c1
  have own1 := owns_below own0 b1
  have q0 := at_cell k1 0
  have q1 := at_cell k1 1
  have f0 := at_open k1 0
  have f1 := at_open k1 1
  obtain ⟨s1, u1⟩ := set_two k1 (.string ⟨#[]⟩) (.int .i64 0)
  have hfin : w.heap.size ≤ w1.heap.size ∧ Below w.heap.size w ((w1.setCell ⟨w.heap.size + 1, 0, none⟩ (.string ⟨#[]⟩)).setCell ⟨w.heap.size + 1, 1, none⟩ (.int .i64 0)) := by
    have := b1.size
    exact ⟨by omega, (bd0.trans (b1.mono bd0.size)).trans (u1.toBelow (by omega) (by omega))⟩
  have own2 := owns_mono (ownsRow_upto own1 u1 (by omega)) (show w.heap.size ≤ w.heap.size + 1 + 1 by omega)
  have HS : Hid _ := And.intro s1 own2
  clear s1 u1 own2 own1 own0 c0 c1 k1 b1
  cases hok : feedOk r k
  · go_wp2_with fail
    exact bodyPost_ret (v := .tuple #[.agg #[.string ByteArray.empty, .int .i64 0], .slice (some ⟨w.heap.size + 1 + 1, 0, none⟩) 0 0]) (by simp [results, Try.results22, go_sem, at_cell HS.out.1]; rfl) rfl ⟨_, rfl, HS.out.2, by simp, hfin.2⟩
  · have hbig : (50 : Int) < (ps.length : Int) := by
      rcases hno with h | h
      · rw [hok] at h; cases h
      · omega
    go_wp2_with fail
    exact bodyPost_ret (v := .tuple #[.agg #[.string ByteArray.empty, .int .i64 0], .slice (some ⟨w.heap.size + 1 + 1, 0, none⟩) 0 0]) (by simp [results, Try.results22, go_sem, at_cell HS.out.1]; rfl) rfl ⟨_, rfl, HS.out.2, by simp, hfin.2⟩

set_option maxHeartbeats 6400000 in
theorem specFedAll_in (r : ByteArray) (pv : Value) (ps : List ByteArray) (k : Int) (w : World) (hok : feedOk r k = true) (hlen : ps.length ≤ 50) (hpz : ∀ p ∈ ps, p.size ≤ 1099511627776) (hp : Reads w.heap.size w pv (ps.map Value.string)) :
    Calls Try.prog 22 #[.agg #[.string r, .int .i64 k], pv] w fun e w' => ∃ v : Value, e = .returned (.tuple #[.agg #[.string (fedAll r k ps).1.1, .int .i64 (fedAll r k ps).1.2], v]) ∧ w'.ownsRow w.heap.size 9 1 v (fedAll r k ps).2.length ((fedAll r k ps).2.map Value.string) ∧ v ≠ .slice none 0 0 ∧ Below w.heap.size w w' := by
  obtain ⟨i0, hi, hz0, hz1, hz2⟩ := info_parts Try.infoStr
  obtain ⟨hr, hk0, hk1, _⟩ := feedOk_bd r k hok
  obtain ⟨o, cap, rfl, hm, hcells, -⟩ := hp
  have HC : Hid (∀ j u, (ps.map Value.string)[j]? = some u → ∃ g off, o = some ⟨g, off, none⟩ ∧ g < w.heap.size ∧ w.cell? ⟨g, off + j, none⟩ = some u) := hcells
  have HZ : Hid (∀ p ∈ ps, p.size ≤ 1099511627776) := hpz
  have hl : (ps.map Value.string).length = ps.length := by simp
  rw [hl] at hm ⊢
  unfold maxLen at hm
  clear hcells hl hpz
  obtain ⟨W0, hW0, c0, c1, own0, bd0, sz0⟩ := fed_start w r k
  have HW0 : Hid (W0 = _) := hW0
  clear hW0
  go_enter Try.func22, Try.ntmps22
  go_wp2_with fail
  rw [← HW0.out]
  clear HW0
  refine (specFeedOk_any r k _ (by omega)).mono ?_
  rintro e w1 ⟨rfl, b1⟩
  rw [hok]
  have k0 : w1.heap[w.heap.size]? = some (.cells #[.string r, .int .i64 k] 32 (0, 0)) := (b1.block _ (by omega)).trans c0
  have k1 : w1.heap[w.heap.size + 1]? = some (.cells #[.string ⟨#[]⟩, .int .i64 0] 32 (0, 0)) := (b1.block _ (by omega)).trans c1
  have own1 := owns_below own0 b1
  have bd1 := bd0.trans (b1.mono bd0.size)
  have sz1 : w.heap.size + 1 + 1 + 1 ≤ w1.heap.size := by have := b1.size; omega
  clear c0 c1 own0 bd0 sz0 b1
  have hlenI : (ps.length : Int) ≤ 50 := by omega
  go_wp2_with fail
  go_loopw [6, 7] (fun v q wr => ∃ (i : Nat) (f : ByteArray × Int) (xs : List ByteArray), i ≤ ps.length ∧ q = .int .i64 i ∧ fedL (r, k) (ps.take i) = (f, xs) ∧ (∀ p ∈ ps.take i, p.size ≤ 1000) ∧ wr.heap[w.heap.size]? = some (.cells #[.string f.1, .int .i64 f.2] 32 (0, 0)) ∧ wr.heap[w.heap.size + 1]? = some (.cells #[.string ⟨#[]⟩, .int .i64 0] 32 (0, 0)) ∧ wr.ownsRow (w.heap.size + 1 + 1) 9 1 v xs.length (xs.map Value.string) ∧ v ≠ .slice none 0 0 ∧ Below w.heap.size w wr ∧ w.heap.size + 1 + 1 + 1 ≤ wr.heap.size) (fun _ q _ => ps.length - (intOf q).toNat)
  case atStart => exact ⟨0, (r, k), [], Nat.zero_le _, rfl, rfl, by simp, k0, k1, own1, by simp, bd1, sz1⟩
  case round =>
    obtain ⟨i, ⟨fr, fk⟩, xs, hik, rfl, hfl, hall, hf0, hf1, own, hnv, hbw, hsw⟩ := hrel
    have hfo := fedL_ok (ps.take i) r k hok hall
    rw [hfl] at hfo
    simp only at hfo hf0
    obtain ⟨hfo1, hxl⟩ := hfo
    have hfbd := feedOk_bd fr fk hfo1
    have hxl2 : xs.length ≤ 53150 := by
      have : (ps.take i).length ≤ 50 := by rw [List.length_take]; omega
      omega
    have HNV : Hid (u6 ≠ Value.slice none 0 0) := hnv
    have HFL : Hid (fedL (r, k) (ps.take i) = ((fr, fk), xs)) := hfl
    have HALL : Hid (∀ p ∈ ps.take i, p.size ≤ 1000) := hall
    clear hnv hfl hall hxl k0 k1 own1 bd1 sz1
    by_cases hlt : i < ps.length
    · obtain ⟨g, off, rfl, hg, hx⟩ := HC.out i (.string ps[i]) (by simp [hlt])
      have hx1 : wr.cell? ⟨g, off + i, none⟩ = some (.string ps[i]) := (hbw.cell (p := ⟨g, off + i, none⟩) hg).trans hx
      have hxz := HZ.out ps[i] (List.getElem_mem hlt)
      have htk : ps.take (i + 1) = ps.take i ++ [ps[i]] := List.take_succ_eq_append_getElem hlt
      have HNo : Hid (1000 < ps[i].size → fedAll r k ps = ((ByteArray.empty, 0), [])) := fun hb => fedAll_no r k ps (fun h => by have := h.2.2 ps[i] (List.getElem_mem hlt); omega)
      have HTK : Hid (ps[i].size ≤ 1000 → (∀ p ∈ ps.take (i + 1), p.size ≤ 1000) ∧ fedL (r, k) (ps.take (i + 1)) = ((fed fr fk ps[i]).1, xs ++ (fed fr fk ps[i]).2)) := fun hb => by
        rw [htk]
        refine ⟨fun p hp => ?_, ?_⟩
        · rcases List.mem_append.1 hp with h | h
          · exact HALL.out p h
          · simp at h; rw [h]; exact hb
        · rw [fedL_snoc, HFL.out]
      clear hx htk
      generalize ps[i] = x at hx1 hxz HNo HTK
      by_cases hbig : (1000 : Int) < (x.size : Int)
      · have hfz := HNo.out (by omega)
        have ha1 : (wr.alloc (.cells #[] 9)).heap[w.heap.size + 1]? = some (.cells #[.string ⟨#[]⟩, .int .i64 0] 32 (0, 0)) := (Below.heap_alloc _ _ _ (by omega)).trans hf1
        have q0 := at_cell ha1 0
        have q1 := at_cell ha1 1
        have f0 := at_open ha1 0
        have f1 := at_open ha1 1
        obtain ⟨s1, u1⟩ := set_two ha1 (.string ⟨#[]⟩) (.int .i64 0)
        have ownl : (wr.alloc (.cells #[] 9)).ownsRow (w.heap.size + 1 + 1) 9 1 (.slice (some ⟨wr.heap.size, 0, none⟩) 0 0) 0 [] := World.ownsRow_lit wr #[] 0 (by omega) (Nat.zero_le _) rfl
        have own3 := owns_mono (ownsRow_upto ownl u1 (by omega)) (show w.heap.size ≤ w.heap.size + 1 + 1 by omega)
        have hfin := (hbw.alloc hbw.size (.cells #[] 9)).trans (u1.toBelow (B := w.heap.size) (by simp; omega) (by omega))
        have HS : Hid _ := And.intro s1 (And.intro own3 hfin)
        clear s1 u1 own3 hfin ha1 ownl own hf0 hf1
        go_wp2_with fail
        refine bodyPost_ret (v := .tuple #[.agg #[.string ByteArray.empty, .int .i64 0], .slice (some ⟨wr.heap.size, 0, none⟩) 0 0]) (by simp [results, Try.results22, go_sem, at_cell HS.out.1]; rfl) rfl ⟨.slice (some ⟨wr.heap.size, 0, none⟩) 0 0, ?_, ?_, by simp, HS.out.2.2⟩
        · rw [hfz]
        · rw [hfz]
          exact HS.out.2.1
      · have hx10 : x.size ≤ 1000 := by omega
        have q0 := at_cell hf0 0
        have q1 := at_cell hf0 1
        have hgr : g < wr.heap.size := by omega
        have hsr : w.heap.size < wr.heap.size := by omega
        have HKeep : ∀ W', Below wr.heap.size wr W' → (Below wr.heap.size wr W' ∧ W'.cell? ⟨w.heap.size, 0, none⟩ = some (.string fr) ∧ W'.cell? ⟨w.heap.size, 1, none⟩ = some (.int .i64 fk) ∧ W'.cell? ⟨g, off + i, none⟩ = some (.string x)) := fun W' hb =>
          ⟨hb, (hb.cell (p := ⟨w.heap.size, 0, none⟩) hsr).trans q0, (hb.cell (p := ⟨w.heap.size, 1, none⟩) hsr).trans q1, (hb.cell (p := ⟨g, off + i, none⟩) hgr).trans hx1⟩
        go_wp2_with fail
        have bdr : Below wr.heap.size wr wr.drew := ⟨rfl, rfl, rfl, Nat.le_refl _, fun _ _ => rfl⟩
        go_region_held3 (fun w' => Below wr.heap.size wr w' ∧ w'.cell? ⟨w.heap.size, 0, none⟩ = some (.string fr) ∧ w'.cell? ⟨w.heap.size, 1, none⟩ = some (.int .i64 fk) ∧ w'.cell? ⟨g, off + i, none⟩ = some (.string x))
          ((refine HKeep _ ?_; repeat (first | exact Below.refl _ _ | refine bw_drew ?_ | refine bw_alloc ?_ | refine bw_call ?_ b5 | refine bw_set ?_ (by first | exact Nat.le_refl _ | (have := b5.size; simp at this ⊢; omega)) _)))
          ((go_at_call 18; refine (specFed_any fr x fk _ (by omega) hxz).mono ?_; rintro e w5 ⟨v5, rfl, own5, hn5, b5⟩; (first | (have k5 : w5.heap[wr.heap.size]? = some (.cells #[.string ⟨#[]⟩, .int .i64 0] 32 (0, 0)) := (b5.block _ (by simp)).trans (heap_alloc_new wr _); have q50 := at_cell k5 0; have q51 := at_cell k5 1; have f50 := at_open k5 0; have f51 := at_open k5 1) | skip)))
        all_goals generalize hfd : fed fr fk x = fd at *
        all_goals obtain ⟨⟨nr, nk⟩, ys⟩ := fd
        all_goals simp only at own5 b5 ⊢
        · have hA : Below wr.heap.size wr (w5.alloc (.cells #[.string nr, .int .i64 nk] 32)) := bw_alloc (bw_call (bw_drew (Below.refl _ _)) b5)
          have hX : (w5.alloc (.cells #[.string nr, .int .i64 nk] 32)).heap[w5.heap.size]? = some (.cells #[.string nr, .int .i64 nk] 32 (0, 0)) := heap_alloc_new w5 _
          have ownM : (w5.alloc (.cells #[.string nr, .int .i64 nk] 32)).ownsRow wr.heap.size 9 1 v5 ys.length (ys.map Value.string) := World.ownsRow.alloc own5 _
          clear own5 b5
          generalize w5.alloc (.cells #[.string nr, .int .i64 nk] 32) = W6 at *
          have hsA := hA.size
          have h60 : W6.heap[w.heap.size]? = some (.cells #[.string fr, .int .i64 fk] 32 (0, 0)) := (hA.block _ hsr).trans hf0
          have h61 : W6.heap[w.heap.size + 1]? = some (.cells #[.string ⟨#[]⟩, .int .i64 0] 32 (0, 0)) := (hA.block _ (by omega)).trans hf1
          have own6 := owns_below own hA
          have bw6 : Below w.heap.size w W6 := hbw.trans (hA.mono (by omega))
          have x0 := at_cell hX 0
          have x1 := at_cell hX 1
          have y0 := at_cell h60 0
          have y1 := at_cell h60 1
          have g0 := at_open h60 0
          have g1 := at_open h60 1
          obtain ⟨h70, u7⟩ := set_two h60 (.string nr) (.int .i64 nk)
          have h71 : ((W6.setCell ⟨w.heap.size, 0, none⟩ (.string nr)).setCell ⟨w.heap.size, 1, none⟩ (.int .i64 nk)).heap[w.heap.size + 1]? = _ := (u7.block _ (by omega) (by omega)).trans h61
          have own7 := ownsRow_upto own6 u7 (by omega)
          have ownM7 := ownsRow_upto ownM u7 (by omega)
          have bw7 : Below w.heap.size w ((W6.setCell ⟨w.heap.size, 0, none⟩ (.string nr)).setCell ⟨w.heap.size, 1, none⟩ (.int .i64 nk)) := bw6.trans (u7.toBelow (by omega) (Nat.le_refl _))
          have sz7 : w.heap.size + 1 + 1 + 1 ≤ ((W6.setCell ⟨w.heap.size, 0, none⟩ (.string nr)).setCell ⟨w.heap.size, 1, none⟩ (.int .i64 nk)).heap.size := by have := u7.size; omega
          obtain ⟨hall1, hfl1⟩ := HTK.out hx10
          simp only at hfl1
          have hyl : ys.length ≤ 1063 := by have := (fed_ok fr x fk hfo1 hx10).2; rw [hfd] at this; exact this
          rcases ownM7.2 with ⟨hbad, _⟩ | ⟨g5, cap5, cur5, rfl, hg5, hh5, hle5, _⟩
          · exact absurd hbad hn5
          have hc5 := ownM7.cells (g := g5) rfl
          have HR : Hid _ := And.intro h70 (And.intro h71 (And.intro bw7 (And.intro hall1 hfl1)))
          clear h70 h71 bw7 hall1 hfl1 u7 ownM ownM7 own6 own hX h61 hA bw6 hf0 hf1 hbw hh5 hg5 hle5 HTK HNo HALL HFL hfd q0 q1 hfo1 HKeep hn5
          go_wp2_with (at_builtin; refine wpList_append_own _ rfl _ _ 22 rfl (w.heap.size + 1 + 1) 9 i0 (.string ByteArray.empty) 1 16 Try.underlying22 hi hz0 hz1 hz2 rfl (by decide) _ _ _ rfl own7 ⟨g5, 0, none⟩ ys.length cap5 (ys.map Value.string) rfl ?c0 hc5 ?c2 ?c3 ?c4 ?c5 ?_)
          case c0 => simp
          case c2 => intro u hu; simp at hu; obtain ⟨y, _, rfl⟩ := hu; rfl
          case c3 => unfold maxLen; omega
          case c4 => omega
          case c5 => omega
          intro v8 w8 own8 grow8 nil8
          have hne8 : v8 ≠ .slice none 0 0 := fun h => HNV.out (nil8.1 h).1
          obtain ⟨h70, h71, bw7, hall1, hfl1⟩ := HR.out
          have hrow := fun q hq => (own7.lt q hq).1
          have h80 := (grow8.block _ (by omega) (fun e => by have := hrow _ e.symm; omega)).trans h70
          have h81 := (grow8.block _ (by omega) (fun e => by have := hrow _ e.symm; omega)).trans h71
          have bw8 : Below w.heap.size w w8 := bw7.grown grow8 (by omega) (fun q hq => by have := hrow q hq; omega)
          have sz8 := grow8.size
          have HQ : Hid _ := And.intro h80 (And.intro h81 (And.intro bw8 (And.intro hall1 (And.intro hfl1 (And.intro own8 (And.intro hne8 (Nat.le_trans sz7 sz8)))))))
          clear h80 h81 bw8 hall1 hfl1 own8 hne8 sz8 nil8 grow8 hrow h70 h71 bw7 HR own7 sz7 hc5
          go_wp2_with fail
          go_roundw
          case rel =>
            obtain ⟨e0, e1, e2, e3, e4, e5, e6, e7⟩ := HQ.out
            exact ⟨i + 1, (nr, nk), xs ++ ys, by omega, by go_num, e4, e3, e0, e1, by simpa using e5, e6, e2, e7⟩
          case measure => simp [intOf]; omega
        · obtain ⟨hX, up6⟩ := set_two k5 (.string nr) (.int .i64 nk)
          have hA : Below wr.heap.size wr ((w5.setCell ⟨wr.heap.size, 0, none⟩ (.string nr)).setCell ⟨wr.heap.size, 1, none⟩ (.int .i64 nk)) := bw_set (bw_set (bw_call (bw_drew (bw_alloc (Below.refl _ _))) b5) (Nat.le_refl _) _) (Nat.le_refl _) _
          have ownM := owns_mono (ownsRow_upto own5 up6 (by simp)) (show wr.heap.size ≤ _ by simp)
          clear own5 b5 up6 k5 q50 q51 f50 f51
          generalize (w5.setCell ⟨wr.heap.size, 0, none⟩ (.string nr)).setCell ⟨wr.heap.size, 1, none⟩ (.int .i64 nk) = W6 at *
          have hsA := hA.size
          have h60 : W6.heap[w.heap.size]? = some (.cells #[.string fr, .int .i64 fk] 32 (0, 0)) := (hA.block _ hsr).trans hf0
          have h61 : W6.heap[w.heap.size + 1]? = some (.cells #[.string ⟨#[]⟩, .int .i64 0] 32 (0, 0)) := (hA.block _ (by omega)).trans hf1
          have own6 := owns_below own hA
          have bw6 : Below w.heap.size w W6 := hbw.trans (hA.mono (by omega))
          have x0 := at_cell hX 0
          have x1 := at_cell hX 1
          have y0 := at_cell h60 0
          have y1 := at_cell h60 1
          have g0 := at_open h60 0
          have g1 := at_open h60 1
          obtain ⟨h70, u7⟩ := set_two h60 (.string nr) (.int .i64 nk)
          have h71 : ((W6.setCell ⟨w.heap.size, 0, none⟩ (.string nr)).setCell ⟨w.heap.size, 1, none⟩ (.int .i64 nk)).heap[w.heap.size + 1]? = _ := (u7.block _ (by omega) (by omega)).trans h61
          have own7 := ownsRow_upto own6 u7 (by omega)
          have ownM7 := ownsRow_upto ownM u7 (by omega)
          have bw7 : Below w.heap.size w ((W6.setCell ⟨w.heap.size, 0, none⟩ (.string nr)).setCell ⟨w.heap.size, 1, none⟩ (.int .i64 nk)) := bw6.trans (u7.toBelow (by omega) (Nat.le_refl _))
          have sz7 : w.heap.size + 1 + 1 + 1 ≤ ((W6.setCell ⟨w.heap.size, 0, none⟩ (.string nr)).setCell ⟨w.heap.size, 1, none⟩ (.int .i64 nk)).heap.size := by have := u7.size; omega
          obtain ⟨hall1, hfl1⟩ := HTK.out hx10
          simp only at hfl1
          have hyl : ys.length ≤ 1063 := by have := (fed_ok fr x fk hfo1 hx10).2; rw [hfd] at this; exact this
          rcases ownM7.2 with ⟨hbad, _⟩ | ⟨g5, cap5, cur5, rfl, hg5, hh5, hle5, _⟩
          · exact absurd hbad hn5
          have hc5 := ownM7.cells (g := g5) rfl
          have HR : Hid _ := And.intro h70 (And.intro h71 (And.intro bw7 (And.intro hall1 hfl1)))
          clear h70 h71 bw7 hall1 hfl1 u7 ownM ownM7 own6 own hX h61 hA bw6 hf0 hf1 hbw hh5 hg5 hle5 HTK HNo HALL HFL hfd q0 q1 hfo1 HKeep hn5
          go_wp2_with (at_builtin; refine wpList_append_own _ rfl _ _ 22 rfl (w.heap.size + 1 + 1) 9 i0 (.string ByteArray.empty) 1 16 Try.underlying22 hi hz0 hz1 hz2 rfl (by decide) _ _ _ rfl own7 ⟨g5, 0, none⟩ ys.length cap5 (ys.map Value.string) rfl ?c0 hc5 ?c2 ?c3 ?c4 ?c5 ?_)
          case c0 => simp
          case c2 => intro u hu; simp at hu; obtain ⟨y, _, rfl⟩ := hu; rfl
          case c3 => unfold maxLen; omega
          case c4 => omega
          case c5 => omega
          intro v8 w8 own8 grow8 nil8
          have hne8 : v8 ≠ .slice none 0 0 := fun h => HNV.out (nil8.1 h).1
          obtain ⟨h70, h71, bw7, hall1, hfl1⟩ := HR.out
          have hrow := fun q hq => (own7.lt q hq).1
          have h80 := (grow8.block _ (by omega) (fun e => by have := hrow _ e.symm; omega)).trans h70
          have h81 := (grow8.block _ (by omega) (fun e => by have := hrow _ e.symm; omega)).trans h71
          have bw8 : Below w.heap.size w w8 := bw7.grown grow8 (by omega) (fun q hq => by have := hrow q hq; omega)
          have sz8 := grow8.size
          have HQ : Hid _ := And.intro h80 (And.intro h81 (And.intro bw8 (And.intro hall1 (And.intro hfl1 (And.intro own8 (And.intro hne8 (Nat.le_trans sz7 sz8)))))))
          clear h80 h81 bw8 hall1 hfl1 own8 hne8 sz8 nil8 grow8 hrow h70 h71 bw7 HR own7 sz7 hc5
          go_wp2_with fail
          go_roundw
          case rel =>
            obtain ⟨e0, e1, e2, e3, e4, e5, e6, e7⟩ := HQ.out
            exact ⟨i + 1, (nr, nk), xs ++ ys, by omega, by go_num, e4, e3, e0, e1, by simpa using e5, e6, e2, e7⟩
          case measure => simp [intOf]; omega
    · have hi2 : i = ps.length := by omega
      have HE : Hid (fedAll r k ps = ((fr, fk), xs)) := by
        have h1 := HALL.out
        have h2 := HFL.out
        rw [List.take_of_length_le (by omega)] at h1 h2
        rw [Hid, fedAll_yes r k ps hok hlen h1]
        exact h2
      have q0 := at_cell hf0 0
      have q1 := at_cell hf0 1
      have p0 := at_cell hf1 0
      have p1 := at_cell hf1 1
      have f0 := at_open hf1 0
      have f1 := at_open hf1 1
      obtain ⟨s1, u1⟩ := set_two hf1 (.string fr) (.int .i64 fk)
      have own3 := owns_mono (ownsRow_upto own u1 (by omega)) (show w.heap.size ≤ w.heap.size + 1 + 1 by omega)
      have hfin := hbw.trans (u1.toBelow (B := w.heap.size) hbw.size (by omega))
      have HS : Hid _ := And.intro s1 (And.intro own3 hfin)
      clear s1 u1 own3 hfin own hf0 hf1
      go_wp2_with fail
      refine bodyPost_ret (v := .tuple #[.agg #[.string fr, .int .i64 fk], u6]) (by simp [results, Try.results22, go_sem, at_cell HS.out.1]) rfl ⟨u6, ?_, ?_, HNV.out, HS.out.2.2⟩
      · rw [HE.out]
      · rw [HE.out]
        exact HS.out.2.1

theorem specFedAll_any (r : ByteArray) (pv : Value) (ps : List ByteArray) (k : Int) (w : World) (hr : r.size ≤ 1099511627776) (hpz : ∀ p ∈ ps, p.size ≤ 1099511627776) (hp : Reads w.heap.size w pv (ps.map Value.string)) :
    Calls Try.prog 22 #[.agg #[.string r, .int .i64 k], pv] w fun e w' => ∃ v : Value, e = .returned (.tuple #[.agg #[.string (fedAll r k ps).1.1, .int .i64 (fedAll r k ps).1.2], v]) ∧ w'.ownsRow w.heap.size 9 1 v (fedAll r k ps).2.length ((fedAll r k ps).2.map Value.string) ∧ v ≠ .slice none 0 0 ∧ Below w.heap.size w w' := by
  by_cases h : feedOk r k = true ∧ ps.length ≤ 50
  · exact specFedAll_in r pv ps k w h.1 h.2 hpz hp
  · have hno : feedOk r k = false ∨ 50 < ps.length := by
      cases hk : feedOk r k
      · exact .inl rfl
      · right
        rcases Nat.lt_or_ge 50 ps.length with q | q
        · exact q
        · exact absurd ⟨hk, q⟩ h
    rw [fedAll_no r k ps (fun q => h ⟨q.1, q.2.1⟩)]
    exact specFedAll_no r pv ps k w hr hp hno

end Go.Proofs.Ytbjkbhchcoabcah
