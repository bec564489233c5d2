/-
  Contracts and plain laws, one chapter behind the other.
-/
import Derived.Deep.DeepCutAuto
import Derived.Test.YtgabhnhfomekfaaM26
import Derived.Test.YtgabhnhfomekfaaM40
namespace Go.Proofs.Ytgabhnhfomekfaa
open Go.RowKit

set_option linter.unusedVariables false


/-- How memory lies while letters are drawn. -/
structure PsSt (c : Nat) (x : Option Addr) (len cap : Nat) (w W : World) (g cp : Nat) (l : List Mg) : Prop where
  own : W.ownsRow w.heap.size 38 15 (.slice (some ⟨g, 0, none⟩) l.length cp) l.length (l.flatMap mgC)
  fit : ∀ m ∈ l, MgD m
  kc : Cur W c x len cap
  u : Upto c w W
  lt : c < w.heap.size

theorem PsSt.step {c g cp : Nat} {x : Option Addr} {len cap : Nat} {w W W' : World} {l : List Mg} (h : PsSt c x len cap w W g cp l) (u : Upto c W W') (kc : Cur W' c x len cap) : PsSt c x len cap w W' g cp l :=
  ⟨ownsRow_upto h.own u h.lt, h.fit, kc, h.u.trans u, h.lt⟩

theorem PsSt.below {c g cp : Nat} {x : Option Addr} {len cap : Nat} {w W W' : World} {l : List Mg} (h : PsSt c x len cap w W g cp l) (b : Below W.heap.size W W') : PsSt c x len cap w W' g cp l := h.step (Upto.ofBelow b) (h.kc.below b)

theorem PsSt.alloc {c g cp : Nat} {x : Option Addr} {len cap : Nat} {w W : World} {l : List Mg} (h : PsSt c x len cap w W g cp l) (o : Obj) : PsSt c x len cap w (W.alloc o) g cp l := h.step ((Upto.refl c W).alloc o) (h.kc.alloc o)

theorem PsSt.start {c : Nat} {x : Option Addr} {len cap : Nat} {w W : World} (kc : Cur W c x len cap) (u : Upto c w W) (lt : c < w.heap.size) : PsSt c x len cap w (W.alloc (.cells #[] 38)) W.heap.size 0 [] :=
  ⟨World.ownsRow_lit W #[] 0 u.size (Nat.zero_le _) rfl, fun e he => by simp at he, kc.alloc _, u.alloc _, lt⟩

theorem new_msg15 (w : World) (m : Mg) (t : TypeId) : ∀ (j : Nat) (u : Value), (mgC m)[j]? = some u → (w.alloc (.cells (mgC m).toArray t)).cell? ((⟨w.heap.size, 0, none⟩ : Addr).add j) = some u := by
  intro j u hj
  rw [addr_add]
  exact (World.cell?_alloc_mark w (mgC m).toArray t (0, 0) j).trans (by simpa using hj)

/-- A letter more. -/
theorem PsSt.more {c g cp : Nat} {x : Option Addr} {len cap : Nat} {w W W' : World} {l : List Mg} {r : Mg} {v : Value} (h : PsSt c x len cap w W g cp l) (hf : MgD r) (hown : W'.ownsRow w.heap.size 38 15 v (l.length + 1) (l.flatMap mgC ++ mgC r)) (hg : W.grownBy W' (some g)) (hn : v ≠ .slice none 0 0) :
    ∃ g' cp', v = .slice (some ⟨g', 0, none⟩) (l ++ [r]).length cp' ∧ PsSt c x len cap w W' g' cp' (l ++ [r]) := by
  have own3 : W'.ownsRow w.heap.size 38 15 v (l ++ [r]).length ((l ++ [r]).flatMap mgC) := by simpa using hown
  have hlo := h.own.lt g rfl
  have hlt := h.lt
  have kl := h.kc.lt
  rcases own3.2 with ⟨e, _⟩ | ⟨g', cp', cur, e, h2⟩
  · exact absurd e hn
  · subst e
    refine ⟨g', cp', rfl, own3, fun q hq => ?_, h.kc.same ((Below.refl _ _).grown hg kl (fun q hq => ?_)), h.u.grown hg (fun q hq => ?_), h.lt⟩
    · rcases List.mem_append.1 hq with hq | hq
      · exact h.fit q hq
      · simp at hq
        subst hq
        exact hf
    · simp at hq; omega
    · simp at hq; left; omega

def ack15 : Mg := ⟨3, 0, 1, ⟨0, 0, 0, ⟨0, ⟨#[]⟩, ⟨#[]⟩, 0, 0, 0⟩⟩, 1, 0, 0⟩

theorem ack_d : MgD ack15 := ⟨by simp [ack15], by simp [ack15], by simp [ack15], by simp [ack15], by simp [ack15], by simp [ack15], opZ, by simp [ack15], by simp [ack15], by simp [ack15]⟩

def left15 : Value → Nat
  | .slice _ n _ => 61 - n
  | _ => 0

set_option maxRecDepth 100000 in
set_option maxHeartbeats 6400000 in
theorem draw15_any (c : Nat) (x : Option Addr) (len cap : Nat) (w : World) (hc : Cur w c x len cap) :
    Calls Try.prog 19 #[.pointer (some ⟨c, 0, none⟩)] w fun e w' => ∃ (g cp : Nat) (l : List Mg), e = .returned (.slice (some ⟨g, 0, none⟩) l.length cp) ∧ l.length ≤ 61 ∧ PsSt c x len cap w w' g cp l := by
  obtain ⟨i1, hi, hz0, hz1, hz2⟩ := info_parts Try.infoMsg
  have hcw := hc.lt
  have st0 : PsSt c x len cap w (w.alloc (.cells #[] 38)) w.heap.size 0 [] := PsSt.start hc (Upto.refl c w) hcw
  go_enter Try.func19, Try.ntmps19
  go_wp2_with fail
  generalize w.alloc (.cells #[] 38) = W0 at st0 ⊢
  refine (below_any c x len cap 7 _ (by omega) st0.kc).mono ?_
  rintro e w1 ⟨m, rfl, hm, u1, k1⟩
  have hm7 : m < 7 := hm.2.1 (by omega)
  have hm0 := hm.1
  have st1 := st0.step u1 k1
  clear st0 hm u1 k1
  go_wp2_with fail
  go_loopw [3, 4] (fun q i wr => ∃ (m : Int) (g cp : Nat) (l : List Mg), (0 ≤ m ∧ m + l.length ≤ 6) ∧ i = .int .i64 m ∧ q = .slice (some ⟨g, 0, none⟩) l.length cp ∧ PsSt c x len cap w wr g cp l) (fun _ i _ => (intOf i).toNat)
  case atStart => exact ⟨m, _, _, [], ⟨hm0, by simp; omega⟩, rfl, rfl, st1⟩
  case round =>
    clear st1 hm0 hm7
    obtain ⟨m, g, cp, l, hm, rfl, rfl, st⟩ := hrel
    by_cases hpos : 0 < m
    · go_wp2_with fail
      refine (drawMsg_any c x len cap _ st.kc).mono ?_
      rintro e w2 ⟨⟨kd, ds, vw, ⟨sq, cl, tg, ⟨ko, nm, ot, at_, va, ep⟩⟩, s, rc, rv⟩, rfl, fm, u2, k2⟩
      have st2 := st.step u2 k2
      clear st u2 k2
      have hfm := fm.fit
      have HF : Hid (MgD _) := fm
      have hn : nm.size ≤ maxLen := Nat.le_trans fm.o.nm (by unfold maxLen; omega)
      have ho : ot.size ≤ maxLen := Nat.le_trans fm.o.ot (by unfold maxLen; omega)
      clear fm hfm
      simp only [mgV]
      have bP : Below w2.heap.size w2 (w2.alloc (.cells #[.int .i64 kd, .int .i64 ds, .int .i64 vw, .int .i64 sq, .int .i64 cl, .int .i64 tg, .int .i64 ko, .string nm, .string ot, .int .i64 at_, .int .i64 va, .int .i64 ep, .int .i64 s, .int .i64 rc, .int .i64 rv] 38)) := bw_alloc (Below.refl _ _)
      have kB := heap_alloc_new w2 (.cells #[.int .i64 kd, .int .i64 ds, .int .i64 vw, .int .i64 sq, .int .i64 cl, .int .i64 tg, .int .i64 ko, .string nm, .string ot, .int .i64 at_, .int .i64 va, .int .i64 ep, .int .i64 s, .int .i64 rc, .int .i64 rv] 38)
      have st3 := st2.below bP
      have hcB : c ≠ w2.heap.size := by have := st2.kc.lt; omega
      clear bP st2
      go_upto_region 6 with fail
      generalize w2.alloc (.cells #[.int .i64 kd, .int .i64 ds, .int .i64 vw, .int .i64 sq, .int .i64 cl, .int .i64 tg, .int .i64 ko, .string nm, .string ot, .int .i64 at_, .int .i64 va, .int .i64 ep, .int .i64 s, .int .i64 rc, .int .i64 rv] 38) = W3 at *
      generalize w2.heap.size = nB at *
      have p0 := at_cell kB 0
      have p1 := at_cell kB 1
      have p2 := at_cell kB 2
      have p3 := at_cell kB 3
      have p4 := at_cell kB 4
      have p5 := at_cell kB 5
      have p6 := at_cell kB 6
      have p7 := at_cell kB 7
      have p8 := at_cell kB 8
      have p9 := at_cell kB 9
      have p10 := at_cell kB 10
      have p11 := at_cell kB 11
      have p12 := at_cell kB 12
      have p13 := at_cell kB 13
      have p14 := at_cell kB 14
      have sB := heap_lt kB
      have HMX : Hid (l.length + 1 ≤ maxLen) := by unfold maxLen; rw [Hid]; omega
      have HBY : Hid ((l.length + 1) * 136 ≤ 140737488355328) := by rw [Hid]; omega
      go_wp2_with fail
      refine (specMsgOk_any kd ds vw sq cl tg ko nm ot at_ va ep s rc rv _ hn ho).mono ?_
      rintro e w4 ⟨rfl, b4⟩
      have st4 := st3.below b4
      replace kB := (b4.block _ sB).trans kB
      replace sB := Nat.lt_of_lt_of_le sB b4.size
      clear p0 p1 p2 p3 p4 p5 p6 p7 p8 p9 p10 p11 p12 p13 p14 b4 st3 hn ho
      have hwm : IntKind.i64.wrap (m - 1) = m - 1 := by rw [IntKind.wrap_i64]; omega
      cases hok : msgOk ⟨kd, ds, vw, ⟨sq, cl, tg, ⟨ko, nm, ot, at_, va, ep⟩⟩, s, rc, rv⟩
      · go_wp2_with fail
        refine (once_any c x len cap 8 _ (by omega) st4.kc).mono ?_
        rintro e w5 ⟨y, rfl, u5, k5⟩
        have st5 := st4.step u5 k5
        replace kB := (u5.block _ sB hcB.symm).trans kB
        clear st4 u5 k5
        cases y
        · have HST : Hid _ := st5
          clear st5
          go_wp2_with fail
          go_roundw
          case rel => exact ⟨m - 1, g, cp, l, ⟨by omega, by omega⟩, by first | rfl | go_num, rfl, HST.out⟩
          case measure => simp [intOf]; omega
        · have p0 := at_cell kB 0
          have p1 := at_cell kB 1
          have p2 := at_cell kB 2
          have p3 := at_cell kB 3
          have p4 := at_cell kB 4
          have p5 := at_cell kB 5
          have p6 := at_cell kB 6
          have p7 := at_cell kB 7
          have p8 := at_cell kB 8
          have p9 := at_cell kB 9
          have p10 := at_cell kB 10
          have p11 := at_cell kB 11
          have p12 := at_cell kB 12
          have p13 := at_cell kB 13
          have p14 := at_cell kB 14
          have HO : Hid _ := st5.own.alloc (.cells (mgC ⟨kd, ds, vw, ⟨sq, cl, tg, ⟨ko, nm, ot, at_, va, ep⟩⟩, s, rc, rv⟩).toArray 38)
          have hsz := st5.u.size
          go_wp2_with (at_builtin; refine wpList_append_own _ rfl _ _ 24 rfl w.heap.size 38 i1 (.agg #[.int .i64 0, .int .i64 0, .int .i64 0, .int .i64 0, .int .i64 0, .int .i64 0, .int .i64 0, .string ByteArray.empty, .string ByteArray.empty, .int .i64 0, .int .i64 0, .int .i64 0, .int .i64 0, .int .i64 0, .int .i64 0]) 15 136 Try.underlying24 hi hz0 hz1 hz2 rfl (by decide) _ _ _ rfl HO.out ⟨w5.heap.size, 0, none⟩ 1 1 (mgC ⟨kd, ds, vw, ⟨sq, cl, tg, ⟨ko, nm, ot, at_, va, ep⟩⟩, s, rc, rv⟩) rfl rfl (new_msg15 _ ⟨kd, ds, vw, ⟨sq, cl, tg, ⟨ko, nm, ot, at_, va, ep⟩⟩, s, rc, rv⟩ _) (fun v hv => msgs_one [⟨kd, ds, vw, ⟨sq, cl, tg, ⟨ko, nm, ot, at_, va, ep⟩⟩, s, rc, rv⟩] v (by simpa using hv)) HMX.out HBY.out (by simp; omega) ?_)
          intro vb wb ownb growb nilb
          have hnb : vb ≠ .slice none 0 0 := fun h => by first | exact nilb h | (have := nilb.1 h; simp at this)
          obtain ⟨g9, cp9, hv9, st9⟩ := (st5.alloc _).more HF.out ownb growb hnb
          subst hv9
          have HST : Hid _ := st9
          clear st9 ownb growb nilb hnb st5 kB p0 p1 p2 p3 p4 p5 p6 p7 p8 p9 p10 p11 p12 p13 p14
          go_wp2_with fail
          go_roundw
          case rel => exact ⟨m - 1, g9, cp9, _, ⟨by omega, by simp; omega⟩, by first | rfl | go_num, by simp, HST.out⟩
          case measure => simp [intOf]; omega
      · have p0 := at_cell kB 0
        have p1 := at_cell kB 1
        have p2 := at_cell kB 2
        have p3 := at_cell kB 3
        have p4 := at_cell kB 4
        have p5 := at_cell kB 5
        have p6 := at_cell kB 6
        have p7 := at_cell kB 7
        have p8 := at_cell kB 8
        have p9 := at_cell kB 9
        have p10 := at_cell kB 10
        have p11 := at_cell kB 11
        have p12 := at_cell kB 12
        have p13 := at_cell kB 13
        have p14 := at_cell kB 14
        have HO : Hid _ := st4.own.alloc (.cells (mgC ⟨kd, ds, vw, ⟨sq, cl, tg, ⟨ko, nm, ot, at_, va, ep⟩⟩, s, rc, rv⟩).toArray 38)
        have hsz := st4.u.size
        go_wp2_with (at_builtin; refine wpList_append_own _ rfl _ _ 24 rfl w.heap.size 38 i1 (.agg #[.int .i64 0, .int .i64 0, .int .i64 0, .int .i64 0, .int .i64 0, .int .i64 0, .int .i64 0, .string ByteArray.empty, .string ByteArray.empty, .int .i64 0, .int .i64 0, .int .i64 0, .int .i64 0, .int .i64 0, .int .i64 0]) 15 136 Try.underlying24 hi hz0 hz1 hz2 rfl (by decide) _ _ _ rfl HO.out ⟨w4.heap.size, 0, none⟩ 1 1 (mgC ⟨kd, ds, vw, ⟨sq, cl, tg, ⟨ko, nm, ot, at_, va, ep⟩⟩, s, rc, rv⟩) rfl rfl (new_msg15 _ ⟨kd, ds, vw, ⟨sq, cl, tg, ⟨ko, nm, ot, at_, va, ep⟩⟩, s, rc, rv⟩ _) (fun v hv => msgs_one [⟨kd, ds, vw, ⟨sq, cl, tg, ⟨ko, nm, ot, at_, va, ep⟩⟩, s, rc, rv⟩] v (by simpa using hv)) HMX.out HBY.out (by simp; omega) ?_)
        intro vb wb ownb growb nilb
        have hnb : vb ≠ .slice none 0 0 := fun h => by first | exact nilb h | (have := nilb.1 h; simp at this)
        obtain ⟨g9, cp9, hv9, st9⟩ := (st4.alloc _).more HF.out ownb growb hnb
        subst hv9
        have HST : Hid _ := st9
        clear st9 ownb growb nilb hnb st4 kB p0 p1 p2 p3 p4 p5 p6 p7 p8 p9 p10 p11 p12 p13 p14
        go_wp2_with fail
        go_roundw
        case rel => exact ⟨m - 1, g9, cp9, _, ⟨by omega, by simp; omega⟩, by first | rfl | go_num, by simp, HST.out⟩
        case measure => simp [intOf]; omega
    · go_wp2_with fail
      refine (once_any c x len cap 40 _ (by omega) st.kc).mono ?_
      rintro e w2 ⟨y, rfl, u2, k2⟩
      have st2 := st.step u2 k2
      clear st u2 k2
      cases y
      · have HS : Hid _ := st2
        clear st2
        go_wp2_with fail
        go_ret
        exact ⟨g, cp, l, rfl, by omega, HS.out⟩
      · have st3 := PsSt.start st2.kc st2.u st2.lt
        clear st2
        go_wp2_with fail
        generalize w2.alloc (.cells #[] 38) = W3 at st3 ⊢
        go_loopw [3] (fun q wr => ∃ (g cp k : Nat), k ≤ 61 ∧ q = .slice (some ⟨g, 0, none⟩) k cp ∧ PsSt c x len cap w wr g cp (List.replicate k ack15)) (fun q _ => left15 q)
        case atStart => exact ⟨_, 0, 0, by omega, rfl, st3⟩
        case round =>
          clear st3 hm hpos
          obtain ⟨g, cp, k, hk, rfl, st⟩ := hrel
          go_wp2_with fail
          refine (below_any c x len cap 2 _ (by omega) st.kc).mono ?_
          rintro e w4 ⟨y, rfl, hy, u4, k4⟩
          have hy2 := hy.2.1 (by omega)
          have hy0 := hy.1
          have st4 := st.step u4 k4
          clear st u4 k4 hy
          have hw : IntKind.i64.wrap (60 + y) = 60 + y := by rw [IntKind.wrap_i64]; omega
          by_cases hlt : (k : Int) < 60 + y
          · have HMX : Hid ((List.replicate k ack15).length + 1 ≤ maxLen) := by unfold maxLen; rw [Hid, List.length_replicate]; omega
            have HBY : Hid (((List.replicate k ack15).length + 1) * 136 ≤ 140737488355328) := by rw [Hid, List.length_replicate]; omega
            have HL : Hid ((List.replicate k ack15).length = k) := List.length_replicate
            have st5 : PsSt c x len cap w w4 g cp (List.replicate k ack15) := st4
            clear st4
            have HO : Hid ((w4.alloc (.cells (mgC ack15).toArray 38)).ownsRow w.heap.size 38 15 (.slice (some ⟨g, 0, none⟩) k cp) k ((List.replicate k ack15).flatMap mgC)) := by have h := st5.own.alloc (.cells (mgC ack15).toArray 38); rwa [HL.out] at h
            have hsz := st5.u.size
            rw [HL.out] at HMX HBY
            go_wp2_with (at_builtin; refine wpList_append_own _ rfl _ _ 24 rfl w.heap.size 38 i1 (.agg #[.int .i64 0, .int .i64 0, .int .i64 0, .int .i64 0, .int .i64 0, .int .i64 0, .int .i64 0, .string ByteArray.empty, .string ByteArray.empty, .int .i64 0, .int .i64 0, .int .i64 0, .int .i64 0, .int .i64 0, .int .i64 0]) 15 136 Try.underlying24 hi hz0 hz1 hz2 rfl (by decide) _ _ _ rfl HO.out ⟨w4.heap.size, 0, none⟩ 1 1 (mgC ack15) rfl rfl (new_msg15 _ ack15 _) (fun v hv => msgs_one [ack15] v (by simpa using hv)) HMX.out HBY.out (by simp; omega) ?_)
            intro vb wb ownb growb nilb
            have hnb : vb ≠ .slice none 0 0 := fun h => by first | exact nilb h | (have := nilb.1 h; simp at this)
            obtain ⟨g9, cp9, hv9, st9⟩ := (st5.alloc _).more ack_d (by rw [HL.out]; exact ownb) growb hnb
            have HE : Hid (List.replicate k ack15 ++ [ack15] = List.replicate (k + 1) ack15) := by rw [Hid, List.replicate_succ']
            rw [HE.out] at hv9 st9
            rw [List.length_replicate] at hv9
            subst hv9
            have HST : Hid _ := st9
            clear st9 ownb growb nilb hnb st5
            go_wp2_with fail
            go_roundw
            case rel => exact ⟨g9, cp9, k + 1, by omega, rfl, HST.out⟩
            case measure => simp [left15]; omega
          · have HS : Hid _ := st4
            clear st4
            go_wp2_with fail
            go_ret
            exact ⟨g, cp, List.replicate k ack15, (by rw [List.length_replicate]; rfl), by rw [List.length_replicate]; exact hk, HS.out⟩
end Go.Proofs.Ytgabhnhfomekfaa

