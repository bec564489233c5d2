/-
  The draws' l1Bend: a text with some bytes turned, cut off, left out or put in.
-/
import Derived.Test.YtdkciaeibkhbgaaDrawText
import Derived.Test.YtdkciaeibkhbgaaBytesRow
import Derived.Deep.RegionLaw
import Derived.Test.YtdkciaeibkhbgaaSteps
namespace Go.Proofs.Ytdkciaeibkhbgaa
open Go.RowKit
set_option linter.unusedVariables false
set_option maxRecDepth 100000

/-- The row that is bent: bytes in a block of the call's own. -/
structure Row8 (w : World) (base g : Nat) (l : List UInt8) : Prop where
  lo : base ≤ g
  hi : g < w.heap.size
  cell : ∀ j u, l[j]? = some u → w.cell? ⟨g, j, none⟩ = some (.int .u8 u.toNat)
  free : ∀ j, j < l.length → w.frozen? ⟨g, j, none⟩ = false
theorem Row8.upto {w w' : World} {base g c : Nat} {l : List UInt8} (h : Row8 w base g l) (u : Upto c w w') (hc : c < base) : Row8 w' base g l :=
  ⟨h.lo, Nat.lt_of_lt_of_le h.hi u.size, fun j x hj => (u.cell (p := ⟨g, j, none⟩) h.hi (by have := h.lo; simp; omega)).trans (h.cell j x hj), fun j hj => (u.frozen (p := ⟨g, j, none⟩) h.hi (by have := h.lo; simp; omega)).trans (h.free j hj)⟩
theorem Row8.take {w : World} {base g : Nat} {l : List UInt8} (h : Row8 w base g l) (k : Nat) : Row8 w base g (l.take k) :=
  ⟨h.lo, h.hi, fun j x hj => h.cell j x (by rw [List.getElem?_take] at hj; split at hj <;> simp_all), fun j hj => h.free j (by simp at hj; omega)⟩
theorem Row8.set {w : World} {base g k : Nat} {l : List UInt8} (h : Row8 w base g l) (v : UInt8) (hk : k < l.length) : Row8 (w.setCell ⟨g, k, none⟩ (.int .u8 v.toNat)) base g (l.set k v) :=
  ⟨h.lo, by have := h.hi; simpa [go_sem] using this, cells_set w g k l v hk h.cell, fun j hj => by have := h.free j (by simpa using hj); simpa [go_sem] using this⟩
theorem Row8.of_own {w : World} {base g cap n : Nat} {l : List UInt8} (h : w.ownsRow base 5 1 (.slice (some ⟨g, 0, none⟩) n cap) n (l.map fun u => Value.int .u8 u.toNat)) : Row8 w base g l := by
  have hl := h.lt g rfl
  have hn : l.length = n := by simpa using h.1
  refine ⟨hl.1, hl.2, fun j u hj => ?_, fun j hj => h.frozenAt j⟩
  have hj' := (List.getElem?_eq_some_iff.1 hj).1
  rw [h.cellAt j (by omega), List.getElem?_map, hj]
  rfl

def vals (l : List UInt8) : List Value := l.map fun u => Value.int .u8 u.toNat
theorem vals_one (l : List UInt8) : ∀ u ∈ vals l, u.oneCell' = true := by
  intro u hu
  simp only [vals, List.mem_map] at hu
  obtain ⟨x, _, rfl⟩ := hu
  rfl
theorem vals_append (a b : List UInt8) : vals a ++ vals b = vals (a ++ b) := by simp [vals]
theorem add_off (g a j : Nat) : (⟨g, a, none⟩ : Addr).add j = ⟨g, a + j, none⟩ := by unfold Addr.add; split <;> simp_all
/-- The cells of a part of the row, in every world that has its block. -/
theorem Row8.part {w W : World} {base g : Nat} {l : List UInt8} (h : Row8 w base g l) (hW : W.heap[g]? = w.heap[g]?) (a n : Nat) : ∀ j u, (vals ((l.drop a).take n))[j]? = some u → W.cell? ((⟨g, a, none⟩ : Addr).add j) = some u := by
  intro j u hj
  rw [add_off]
  simp only [vals, List.getElem?_map, Option.map_eq_some_iff] at hj
  obtain ⟨x, hx, rfl⟩ := hj
  rw [World.cell?_of_block (w := w) (by exact hW)]
  apply h.cell
  rw [List.getElem?_take] at hx
  split at hx
  · rw [List.getElem?_drop] at hx; exact hx
  · cases hx
theorem own_empty (w W : World) (base : Nat) (hb : base ≤ w.heap.size) (hW : W.heap = (w.alloc (.cells #[] 5)).heap) : W.ownsRow base 5 1 (.slice (some ⟨w.heap.size, 0, none⟩) 0 0) 0 [] := by
  have := World.ownsRow_lit (base := base) (e := 5) (size := 1) w #[] 0 hb (Nat.zero_le _) rfl
  obtain ⟨h1, h2⟩ := this
  refine ⟨h1, ?_⟩
  rw [hW]
  exact h2

/-- What the last append leaves: the row for the next round. -/
theorem row_of {w : World} {base n : Nat} {v : Value} {l : List UInt8} (h : w.ownsRow base 5 1 v n (vals l)) (hv : ¬ v = .slice none 0 0) : ∃ g cap, v = .slice (some ⟨g, 0, none⟩) l.length cap ∧ l.length ≤ cap ∧ Row8 w base g l := by
  have hn : l.length = n := by have := h.1; simpa [vals] using this
  subst hn
  rcases h.2 with ⟨e, _⟩ | ⟨g, cap, cur, rfl, _, _, hnc, _⟩
  · exact absurd e hv
  · exact ⟨g, cap, rfl, hnc, Row8.of_own h⟩
theorem empty_slice (g n cap : Nat) : ¬ (Value.slice (some ⟨g, 0, none⟩) n cap = .slice none 0 0) := by simp

set_option maxHeartbeats 1600000 in
theorem bend_any (c : Nat) (x : Option Addr) (len cap : Nat) (s sg : ByteArray) (w : World) (hs : s.size ≤ 1000000) (h1 : 1 ≤ sg.size) (h2 : sg.size ≤ 1000) (hc : Cur w c x len cap) :
    Calls Try.prog 39 #[.pointer (some ⟨c, 0, none⟩), .string s, .string sg] w fun e w' => ∃ r : ByteArray, e = .returned (.string r) ∧ r.size ≤ s.size + 2 ∧ Upto c w w' ∧ Cur w' c x len cap := by
  obtain ⟨i0, hi, hz0, hz1, hz2⟩ := info_parts Try.infoU8
  have hlt := hc.lt
  obtain ⟨cp0, w1, hcv, b1, hz, hcell, hfroz, hcap⟩ := bytes_new s w
  have k1 := hc.below b1
  have row1 : Row8 w1 w.heap.size w.heap.size s.data.toList := ⟨Nat.le_refl _, by omega, hcell, fun j hj => hfroz j (by simpa using hj)⟩
  have u1 : Upto c w w1 := Upto.ofBelow b1
  clear hcell hfroz b1
  go_enter Try.func39, Try.ntmps39
  go_wp2_with fail
  refine (below_any c x len cap 3 _ (by omega) k1).mono ?_
  rintro e w2 ⟨m0, rfl, hm0, u2, k2⟩
  obtain ⟨m, rfl⟩ := Int.eq_ofNat_of_zero_le hm0.1
  have hm1 : (m : Int) < 3 := hm0.2.1 (by omega)
  have row2 := row1.upto u2 hlt
  have u12 := u1.trans u2
  have hlen : s.data.toList.length = s.size := by simp
  have hl2 : s.data.toList.length + m ≤ s.size + 2 := by omega
  have hcp : s.data.toList.length ≤ cp0 := by omega
  rw [← hlen] at hcv ⊢
  generalize s.data.toList = l0 at *
  clear hm0 row1 u1 u2 k1 hcv hz hcap hlen
  go_wp2_with fail
  go_loopw [7, 8] (fun v n wr => ∃ (m : Nat) (l : List UInt8) (g cp : Nat), n = .int .i64 m ∧ m ≤ 2 ∧ l.length + m ≤ s.size + 2 ∧ v = .slice (some ⟨g, 0, none⟩) l.length cp ∧ l.length ≤ cp ∧ Row8 wr w.heap.size g l ∧ Upto c w wr ∧ Cur wr c x len cap) (fun _ n _ => (intOf n).toNat)
  case atStart => exact ⟨m, l0, _, _, rfl, by omega, hl2, rfl, hcp, row2, u12, k2⟩
  case round =>
    obtain ⟨m, l, g, cp, rfl, hm2, hlm, rfl, hlc, row, u, k⟩ := hrel
    clear row2 u12 k2 hl2 hcp
    by_cases hgo : (0 : Int) < (m : Int) ∧ (0 : Int) < (l.length : Int)
    · obtain ⟨hgo1, hgo2⟩ := hgo
      go_wp2_with fail
      refine (below_any c x len cap l.length _ (by omega) k).mono ?_
      rintro e w3 ⟨q0, rfl, hq0, u3, k3⟩
      obtain ⟨q, rfl⟩ := Int.eq_ofNat_of_zero_le hq0.1
      have hq : (q : Int) < (l.length : Int) := hq0.2.1 (by omega)
      go_wp2_with fail
      refine (below_any c x len cap 4 _ (by omega) k3).mono ?_
      rintro e w4 ⟨sw, rfl, hsw, u4, k4⟩
      have row4 := (row.upto u3 hlt).upto u4 hlt
      have u14 := (u.trans u3).trans u4
      have hsw4 : sw = 0 ∨ sw = 1 ∨ sw = 2 ∨ sw = 3 := by omega
      clear row u u3 u4 k k3 hq0 hsw
      rcases hsw4 with rfl | rfl | rfl | rfl
      · go_wp2_with fail
        refine (below_any c x len cap sg.size _ (by omega) k4).mono ?_
        rintro e w5 ⟨p0, rfl, hp0, u5, k5⟩
        obtain ⟨p, rfl⟩ := Int.eq_ofNat_of_zero_le hp0.1
        have hp : (p : Int) < (sg.size : Int) := hp0.2.1 (by omega)
        have row5 := row4.upto u5 hlt
        have hpn : p < sg.size := by omega
        have hc0 := row5.cell q _ (List.getElem?_eq_getElem (by omega))
        have hf0 := row5.free q (by omega)
        have row6 := row5.set sg[p] (k := q) (by omega)
        have u16 : Upto c w (w5.setCell ⟨g, q, none⟩ (.int .u8 sg[p].toNat)) := (u14.trans u5).setCell _ (.inr row5.lo) _
        have k6 : Cur (w5.setCell ⟨g, q, none⟩ (.int .u8 sg[p].toNat)) c x len cap := k5.same ((Below.refl _ _).setCell (by have := row5.lo; simp; omega) _)
        generalize l[q] = u0 at hc0
        clear row4 u14 k4 u5 k5 hp0 row5
        go_wp2_with fail
        go_roundw
        case rel => exact ⟨m - 1, l.set q sg[p], g, cp, by go_num, by omega, by simp; omega, by simp, by simpa using hlc, row6, u16, k6⟩
        case measure => simp [intOf]; omega
      · have row5 := row4.take q
        have hqc : q ≤ cp := by omega
        clear row4
        go_wp2_with fail
        go_roundw
        case rel => exact ⟨m - 1, l.take q, g, cp, by go_num, by omega, by simp; omega, by simp; omega, by simp; omega, row5, u14, k4⟩
        case measure => simp [intOf]; omega
      · have hq1 : (0 : Int) ≤ (q : Int) + 1 := by omega
        have hq2 : (q : Int) + 1 ≤ (l.length : Int) := by omega
        have hq3 : (l.length : Int) ≤ (cp : Int) := by omega
        have hq4 : (q : Int) ≤ (cp : Int) := by omega
        have hlo := row4.lo
        have hhi := row4.hi
        have hbig : l.length ≤ 1000002 := by omega
        have HT : Hid ((vals ((l.drop 0).take q)).length = q * 1) := by simp [Hid, vals]; omega
        have HT2 : Hid ((vals ((l.drop (q + 1)).take (l.length - (q + 1)))).length = (l.length - (q + 1)) * 1) := by simp [Hid, vals]
        have hw1 : IntKind.i64.wrap ((q : Int) + 1) = (q : Int) + 1 := by rw [IntKind.wrap_i64]; omega
        have hw2 : ((q : Int) + 1).toNat = q + 1 := by omega
        by_cases hcq : cp = q + 1
        · subst hcq
          have hq5 : (q : Int) ≤ (q : Int) + 1 := by omega
          have hq6 : (0 : Int) ≤ (q : Int) := by omega
          go_wp2_with fail
          go_region_law (first
            | (refine step_append rfl (.tmp 47) (.tmp 50) 22 rfl w.heap.size 5 i0 (.int .u8 0) 1 1 Try.underlying22 hi hz0 hz1 hz2 rfl (by decide) (.slice (some ⟨w4.heap.size, 0, none⟩) 0 0) 0 [] (by simp [Act.eval]) ?own ⟨g, 0, none⟩ q (q + 1) (vals ((l.drop 0).take q)) (by simp [Act.eval]) HT.out ?hn (vals_one _) ?h63 ?hb ?hbase ?_
               case own => exact own_empty w4 _ _ (by omega) rfl
               case hn => exact row4.part (Below.heap_alloc w4 _ g hhi) 0 q
               case h63 => unfold maxLen; omega
               case hb => omega
               case hbase => simp; omega
               intro v5 w5 own5 grow5 nil5)
            | (refine step_append rfl (.tmp 51) (.tmp 55) 22 rfl w.heap.size 5 i0 (.int .u8 0) 1 1 Try.underlying22 hi hz0 hz1 hz2 rfl (by decide) v5 (0 + q) _ ?e1 own5 ⟨g, 0, none⟩ (l.length - (q + 1)) 0 (vals ((l.drop (q + 1)).take (l.length - (q + 1)))) ?e2 HT2.out ?hn (vals_one _) ?h63 ?hb ?hbase ?_
               case e1 => simp [Act.eval]
               case e2 => simp [Act.eval]; omega
               case hn => exact fun j u hj => by rw [show l.length - (q + 1) = 0 from by omega] at hj; simp [vals] at hj
               case h63 => unfold maxLen; omega
               case hb => omega
               case hbase => have := grow5.size; simp at this; omega
               intro v6 w6 own6 grow6 nil6))
          have hv6 : ¬ v6 = .slice none 0 0 := fun h => (empty_slice _ _ _) ((nil5.1 (nil6.1 h).1).1)
          rw [List.nil_append, vals_append] at own6
          obtain ⟨g', cp', rfl, hgc, row6⟩ := row_of own6 hv6
          have u5 : Upto c w w5 := ((u14.alloc _).drew).grown grow5 (fun z hz => by simp [Value.ownBlock] at hz; left; have := u14.size; omega)
          have u6 : Upto c w w6 := u5.grown grow6 (fun z hz => .inl (own5.lt z hz).1)
          have k5 : Cur w5 c x len cap := ((k4.alloc _).drew).same ((Below.refl _ _).grown grow5 ((k4.alloc _).drew).lt (fun z hz => by simp [Value.ownBlock] at hz; omega))
          have k6 : Cur w6 c x len cap := k5.same ((Below.refl _ _).grown grow6 k5.lt (fun z hz => by have := (own5.lt z hz).1; omega))
          clear own5 grow5 nil5 own6 grow6 nil6 hv6 u5 k5 HT HT2 row4 u14 k4
          have hnl : ((l.drop 0).take q ++ (l.drop (q + 1)).take (l.length - (q + 1))).length + 1 ≤ l.length := by simp; omega
          generalize (l.drop 0).take q ++ (l.drop (q + 1)).take (l.length - (q + 1)) = nl at *
          go_wp2_with fail
          go_roundw
          case rel => exact ⟨m - 1, nl, g', cp', by go_num, by omega, by omega, rfl, hgc, row6, u6, k6⟩
          case measure => simp [intOf]; omega
        · skip
          go_wp2_with fail
          go_region_law (first
            | (refine step_append rfl (.tmp 47) (.tmp 50) 22 rfl w.heap.size 5 i0 (.int .u8 0) 1 1 Try.underlying22 hi hz0 hz1 hz2 rfl (by decide) (.slice (some ⟨w4.heap.size, 0, none⟩) 0 0) 0 [] (by simp [Act.eval]) ?own ⟨g, 0, none⟩ q cp (vals ((l.drop 0).take q)) (by simp [Act.eval]) HT.out ?hn (vals_one _) ?h63 ?hb ?hbase ?_
               case own => exact own_empty w4 _ _ (by omega) rfl
               case hn => exact row4.part (Below.heap_alloc w4 _ g hhi) 0 q
               case h63 => unfold maxLen; omega
               case hb => omega
               case hbase => simp; omega
               intro v5 w5 own5 grow5 nil5)
            | (refine step_append rfl (.tmp 51) (.tmp 55) 22 rfl w.heap.size 5 i0 (.int .u8 0) 1 1 Try.underlying22 hi hz0 hz1 hz2 rfl (by decide) v5 (0 + q) _ ?e1 own5 ⟨g, q + 1, none⟩ (l.length - (q + 1)) (cp - (q + 1)) (vals ((l.drop (q + 1)).take (l.length - (q + 1)))) ?e2 HT2.out ?hn (vals_one _) ?h63 ?hb ?hbase ?_
               case e1 => simp [Act.eval]
               case e2 => simp [Act.eval]
               case hn => exact row4.part ((grow5.block g (by simp; omega) (by simp [Value.ownBlock]; omega)).trans (Below.heap_alloc w4 _ g hhi)) (q + 1) (l.length - (q + 1))
               case h63 => unfold maxLen; omega
               case hb => omega
               case hbase => have := grow5.size; simp at this; omega
               intro v6 w6 own6 grow6 nil6))
          have hv6 : ¬ v6 = .slice none 0 0 := fun h => (empty_slice _ _ _) ((nil5.1 (nil6.1 h).1).1)
          rw [List.nil_append, vals_append] at own6
          obtain ⟨g', cp', rfl, hgc, row6⟩ := row_of own6 hv6
          have u5 : Upto c w w5 := ((u14.alloc _).drew).grown grow5 (fun z hz => by simp [Value.ownBlock] at hz; left; have := u14.size; omega)
          have u6 : Upto c w w6 := u5.grown grow6 (fun z hz => .inl (own5.lt z hz).1)
          have k5 : Cur w5 c x len cap := ((k4.alloc _).drew).same ((Below.refl _ _).grown grow5 ((k4.alloc _).drew).lt (fun z hz => by simp [Value.ownBlock] at hz; omega))
          have k6 : Cur w6 c x len cap := k5.same ((Below.refl _ _).grown grow6 k5.lt (fun z hz => by have := (own5.lt z hz).1; omega))
          clear own5 grow5 nil5 own6 grow6 nil6 hv6 u5 k5 HT HT2 row4 u14 k4
          have hnl : ((l.drop 0).take q ++ (l.drop (q + 1)).take (l.length - (q + 1))).length + 1 ≤ l.length := by simp; omega
          generalize (l.drop 0).take q ++ (l.drop (q + 1)).take (l.length - (q + 1)) = nl at *
          go_wp2_with fail
          go_roundw
          case rel => exact ⟨m - 1, nl, g', cp', by go_num, by omega, by omega, rfl, hgc, row6, u6, k6⟩
          case measure => simp [intOf]; omega
      · have hq4 : (q : Int) ≤ (cp : Int) := by omega
        have hq5 : (q : Int) ≤ (l.length : Int) := by omega
        have hq6 : (0 : Int) ≤ (q : Int) := by omega
        have hlo := row4.lo
        have hhi := row4.hi
        have hbig : l.length ≤ 1000002 := by omega
        have hnq : ¬ cp = q := by omega
        have HT : Hid ((vals ((l.drop 0).take q)).length = q * 1) := by simp [Hid, vals]; omega
        have HT2 : Hid ((vals ((l.drop q).take (l.length - q))).length = (l.length - q) * 1) := by simp [Hid, vals]
        go_wp2_with fail
        have hlt4 : c < w4.heap.size := k4.lt
        go_region_law (first
          | (refine step_append rfl (.tmp 59) (.tmp 62) 22 rfl w4.heap.size 5 i0 (.int .u8 0) 1 1 Try.underlying22 hi hz0 hz1 hz2 rfl (by decide) (.slice (some ⟨w4.heap.size, 0, none⟩) 0 0) 0 [] ?e1 ?own ⟨g, 0, none⟩ q cp (vals ((l.drop 0).take q)) ?e2 HT.out ?hn (vals_one _) ?h63 ?hb ?hbase ?_
             case e1 => simp [Act.eval]
             case e2 => simp [Act.eval]
             case own => exact own_empty w4 _ _ (Nat.le_refl _) rfl
             case hn => exact row4.part (Below.heap_alloc w4 _ g hhi) 0 q
             case h63 => unfold maxLen; omega
             case hb => omega
             case hbase => simp
             intro v5 w5 own5 grow5 nil5
             have k5 : Cur w5 c x len cap := ((k4.alloc _).drew).same ((Below.refl _ _).grown grow5 ((k4.alloc _).drew).lt (fun z hz => by simp [Value.ownBlock] at hz; omega))
             have hs5 : w4.heap.size + 1 ≤ w5.heap.size := by have := grow5.size; simpa using this)
          | (refine step_append rfl (.tmp 63) (.tmp 70) 22 rfl w4.heap.size 5 i0 (.int .u8 0) 1 1 Try.underlying22 hi hz0 hz1 hz2 rfl (by decide) v5 (0 + q) ([] ++ vals ((l.drop 0).take q)) ?e1 ?own ⟨w6.heap.size, 0, none⟩ 1 1 [.int .u8 sg[p].toNat] ?e2 rfl ?hn ?h1 ?h63 ?hb ?hbase ?_
             case e1 => simp [Act.eval]
             case e2 => simp [Act.eval]
             case own => exact (ownsRow_upto own5 u6 hlt4).alloc _
             case hn => exact new_one _ _ _
             case h1 => intro u hu; simp at hu; subst hu; rfl
             case h63 => unfold maxLen; omega
             case hb => omega
             case hbase => simp; omega
             intro v7 w7 own7 grow7 nil7)
          | (refine step_append rfl (.tmp 71) (.tmp 74) 22 rfl w4.heap.size 5 i0 (.int .u8 0) 1 1 Try.underlying22 hi hz0 hz1 hz2 rfl (by decide) v7 (0 + q + 1) ([] ++ vals ((l.drop 0).take q) ++ [.int .u8 sg[p].toNat]) ?e1 own7 ⟨g, q, none⟩ (l.length - q) (cp - q) (vals ((l.drop q).take (l.length - q))) ?e2 HT2.out ?hn (vals_one _) ?h63 ?hb ?hbase ?_
             case e1 => simp [Act.eval]
             case e2 => simp [Act.eval]
             case hn =>
               have e5 : w5.heap[g]? = w4.heap[g]? := (grow5.block g (by simp; omega) (by simp [Value.ownBlock]; omega)).trans (Below.heap_alloc w4 _ g hhi)
               have e6 : w6.heap[g]? = w5.heap[g]? := u6.block g (by omega) (by omega)
               have hv5 : some g ≠ v5.ownBlock := fun he => by have := (own5.lt g he.symm).1; omega
               have e7 : w7.heap[g]? = w6.heap[g]? := (grow7.block g (by simp; omega) hv5).trans (Below.heap_alloc w6 _ g (by omega))
               exact row4.part (e7.trans (e6.trans e5)) q (l.length - q)
             case h63 => unfold maxLen; omega
             case hb => omega
             case hbase => have := grow7.size; simp at this; omega
             intro v8 w8 own8 grow8 nil8)
          | (go_simp
             go_at_call 46
             refine (below_any c x len cap sg.size _ ?hr k5).mono ?_
             case hr => omega
             rintro e w6 ⟨p0, rfl, hp0, u6, k6⟩
             obtain ⟨p, rfl⟩ := Int.eq_ofNat_of_zero_le hp0.1
             have hp : (p : Int) < (sg.size : Int) := hp0.2.1 (by omega)
             have hp' : (0 : Int) ≤ (p : Int) := by omega
             have hpn : p < sg.size := by omega
             have hs6 := u6.size
             dsimp only))
        have hv8 : ¬ v8 = .slice none 0 0 := fun h => (empty_slice _ _ _) ((nil5.1 (nil7.1 (nil8.1 h).1).1).1)
        have hvals : [] ++ vals ((l.drop 0).take q) ++ [Value.int .u8 sg[p].toNat] ++ vals ((l.drop q).take (l.length - q)) = vals ((l.drop 0).take q ++ [sg[p]] ++ (l.drop q).take (l.length - q)) := by simp [vals]
        rw [hvals] at own8
        obtain ⟨g', cp', rfl, hgc, row8⟩ := row_of own8 hv8
        have row9 : Row8 w8 w.heap.size g' ((l.drop 0).take q ++ [sg[p]] ++ (l.drop q).take (l.length - q)) := ⟨Nat.le_trans u14.size row8.lo, row8.hi, row8.cell, row8.free⟩
        have u5 : Upto c w w5 := ((u14.alloc _).drew).grown grow5 (fun z hz => by simp [Value.ownBlock] at hz; left; have := u14.size; omega)
        have u7 : Upto c w w7 := ((u5.trans u6).alloc _).grown grow7 (fun z hz => .inl (Nat.le_trans u14.size (own5.lt z hz).1))
        have u8 : Upto c w w8 := u7.grown grow8 (fun z hz => .inl (Nat.le_trans u14.size (own7.lt z hz).1))
        have k7 : Cur w7 c x len cap := (k6.alloc _).same ((Below.refl _ _).grown grow7 (k6.alloc _).lt (fun z hz => by have := (own5.lt z hz).1; omega))
        have k8 : Cur w8 c x len cap := k7.same ((Below.refl _ _).grown grow8 k7.lt (fun z hz => by have := (own7.lt z hz).1; omega))
        have hnl : ((l.drop 0).take q ++ [sg[p]] ++ (l.drop q).take (l.length - q)).length ≤ l.length + 1 := by simp; omega
        clear own5 grow5 nil5 own7 grow7 nil7 own8 grow8 nil8 hv8 u5 u6 u7 k5 k6 k7 HT HT2 row4 row8 u14 k4 hvals
        generalize (l.drop 0).take q ++ [sg[p]] ++ (l.drop q).take (l.length - q) = nl at *
        go_wp2_with fail
        go_roundw
        case rel => exact ⟨m - 1, nl, g', cp', by go_num, by omega, by omega, rfl, hgc, row9, u8, k8⟩
        case measure => simp [intOf]; omega
    · have hcvb := bytes_back wr g cp l.length l rfl row.cell
      have hstop : ¬ ((0 : Int) < (m : Int) ∧ (0 : Int) < (l.length : Int)) := hgo
      by_cases hm0 : (0 : Int) < (m : Int)
      · have hl0 : ¬ (0 : Int) < (l.length : Int) := fun h => hgo ⟨hm0, h⟩
        clear hgo hstop
        go_wp2_with fail
        go_ret
        exact ⟨_, rfl, by show Array.size _ ≤ _; simp; omega, u, k⟩
      · clear hgo hstop
        go_wp2_with fail
        go_ret
        exact ⟨_, rfl, by show Array.size _ ≤ _; simp; omega, u, k⟩

end Go.Proofs.Ytdkciaeibkhbgaa
