/-
  The law FnFrames answers true at every input that the row speaks of, and its arguments read afterwards as before; the walk goes over the callees' contracts.
-/
import Derived.Test.YtbjkbhchcoabcaaRows
import Derived.WalkKit
import Derived.Test.YtbjkbhchcoabcaaFrame3
import Derived.Test.YtbjkbhchcoabcaaImFrame3
import Derived.Test.YtbjkbhchcoabcaaFrameP
import Derived.Test.YtbjkbhchcoabcaaDrawFr2
import Derived.Test.YtbjkbhchcoabcaaTexts
import Derived.ProofKit
import Derived.OpenShut
import Derived.ShutString
import Derived.ChangeOld
import Derived.Below
namespace Go.Proofs.Ytbjkbhchcoabcaa.fnFrames
open Go.ChangeShapes Go.WideShapes Go.ChangeAt Go.RowKit
open Go.ChangeMaps (open_string shut_string)
set_option linter.unusedVariables false

theorem own : ownKnob Try.prog.godebug = none := by kernel_rfl
theorem laidOut : laidOutB Try.prog = true := by kernel_rfl

def IsRow (k : IntKind) (w : World) (a : Option Addr) (len cap : Nat) (zs : List Int) : Prop :=
  (a = none ∧ len = 0 ∧ cap = 0 ∧ zs = []) ∨
  ∃ x, a = some x ∧ len ≤ cap ∧ cap ≤ maxLen ∧ zs.length = cap ∧ (∀ i, i < zs.length → w.cell? (x.add i) = some (.int k (zs.getD i 0))) ∧ ∀ n ∈ zs, (Lit.int k n).wf = true

set_option maxRecDepth 100000 in
set_option maxHeartbeats 8000000 in
theorem walk (a0 : Option Addr) (len0 cap0 : Nat) (z0 : List Int) (w : World) (w0 : IsRow .u8 w a0 len0 cap0 z0) :
    Calls Try.prog 4 #[.slice a0 len0 cap0] w fun e w' => e = .returned (.bool true) ∧ Below w.heap.size w w' := by
  have hs : Src w w.heap.size a0 len0 := src_of w0
  have hm := hs.1
  by_cases hbig : (4096 : Int) < (len0 : Int)
  · have hd : decide ((4096 : Int) < (len0 : Int)) = true := by simpa using hbig
    go_enter Try.func4, Try.ntmps4
    go_wp2_with (go_at_call 8; refine (big_any _ _ _ _ hm).mono ?_; rintro e w' ⟨rfl, rfl⟩)
    go_ret
    exact ⟨rfl, Below.refl _ _⟩
  · have hd : decide ((4096 : Int) < (len0 : Int)) = false := by simpa using hbig
    clear w0
    go_enter Try.func4, Try.ntmps4
    go_wp2_with fail
    refine (big_any _ _ _ _ hm).mono ?_
    rintro e w' ⟨rfl, rfl⟩
    go_wp2_with fail
    refine (drawFrames_any _ _ _ _ hs).mono ?_
    rintro e w1 ⟨s, rfl, hsz, b1⟩
    go_wp2_with fail
    refine (implFrames_any _ _ (by omega)).mono ?_
    rintro e w2 ⟨lv, rfl, lo, c2⟩
    have b2 := b1.trans (c2.mono b1.size)
    have lr2 := Reads.of_own lo
    obtain ⟨xs, n, hall⟩ : ∃ xs n, Fr.frAll s = (xs, n) := ⟨_, _, rfl⟩
    have hle := Fr.frAll_le s
    have hcat := Fr.frAll_cat s
    have hmem := Fr.frAll_mem s
    rw [hall] at lr2 hle hcat hmem ⊢
    simp only at lr2 hle hcat hmem ⊢
    have HM : Hid (∀ x ∈ xs, x.size ≤ s.size) := hmem
    have HA : Hid (Fr.frAll s = (xs, n)) := hall
    have HC : Hid (Fr.cat xs = s.data.toList.take n) := hcat
    clear hall lo c2 hcat hmem
    go_wp2_with fail
    refine (drawFramed_any _ _ _ _ ((hs.below b2).mono b2.size)).mono ?_
    rintro e w3 ⟨t, rfl, ht, c3⟩
    have b3 := b2.trans (c3.mono b2.size)
    have lr3 := (lr2.below c3).mono c3.size
    clear c3 lr2
    go_wp2_with fail
    refine (implFramed_any _ _ (by omega)).mono ?_
    rintro e w4 ⟨rfl, c4⟩
    have b4 := b3.trans (c4.mono b3.size)
    have lr4 := (lr3.below c4).mono c4.size
    clear c4 lr3
    go_wp2_with fail
    refine (drawFrameAt_any _ _ _ _ ((hs.below b4).mono b4.size)).mono ?_
    rintro e w5 ⟨q, at_, rfl, hq, c5⟩
    have b5 := b4.trans (c5.mono b4.size)
    have lr5 := (lr4.below c5).mono c5.size
    clear c5 lr4
    go_wp2_with fail
    refine (implFrame_any _ _ _ (by omega)).mono ?_
    rintro e w6 ⟨rfl, c6⟩
    have b6 := b5.trans (c6.mono b5.size)
    have lr6 := (lr5.below c6).mono c6.size
    clear c6 lr5
    go_wp2_with fail
    refine (specFrames_any _ _ (by omega)).mono ?_
    rintro e w7 ⟨yv, rfl, yo, c7⟩
    have b7 := b6.trans (c7.mono b6.size)
    have lr7 := (lr6.below c7).mono c7.size
    have yr7 := Reads.of_own yo
    rw [HA.out] at yr7 ⊢
    simp only at yr7 ⊢
    clear c7 lr6 yo
    go_wp2_with fail
    refine (likeTexts_any lv yv xs xs _ lr7 yr7).mono ?_
    rintro e w8 ⟨rfl, c8⟩
    have b8 := b7.trans (c8.mono b7.size)
    have lr8 := (lr7.below c8).mono c8.size
    have d1 : decide (xs = xs) = true := by simp
    rw [d1]
    clear c8 lr7 yr7 d1
    go_wp2_with fail
    refine (specFramed_any _ _ (by omega)).mono ?_
    rintro e w9 ⟨rfl, c9⟩
    have b9 := b8.trans (c9.mono b8.size)
    have lr9 := (lr8.below c9).mono c9.size
    clear c9 lr8
    go_wp2_with fail
    refine (specFrame_any _ _ _ (by omega)).mono ?_
    rintro e w10 ⟨rfl, c10⟩
    have b10 := b9.trans (c10.mono b9.size)
    have lr10 := (lr9.below c10).mono c10.size
    clear c10 lr9 b1 b2 b3 b4 b5 b6 b7 b8 b9
    obtain ⟨o, lcap, rfl, hlm, hlc, -⟩ := lr10
    have LC : Hid (∀ j u, (xs.map Value.string)[j]? = some u → ∃ g off, o = some ⟨g, off, none⟩ ∧ g < w10.heap.size ∧ w10.cell? ⟨g, off + j, none⟩ = some u) := hlc
    have hxl : (xs.map Value.string).length = xs.length := by simp
    rw [hxl] at hlm ⊢
    clear hlc hlm hxl
    have hne := BelowOf.any w10
    have hbd := Fr.frEnd_bd q at_
    have htx := Fr.frText_size q at_
    by_cases hge : 0 ≤ Fr.frEnd q at_
    · obtain ⟨p, rfl⟩ := Int.eq_ofNat_of_zero_le (hbd.2.2 hge).1
      have hfr := Fr.framed_text q p hge
      obtain ⟨e, he⟩ := Int.eq_ofNat_of_zero_le hge
      rw [he] at hfr hbd ⊢
      rw [Int.toNat_natCast] at hfr
      generalize Fr.frText q p = tx at hfr htx ⊢
      have hg1 : decide ((0 : Int) ≤ (e : Int)) = true := by simp
      have hi0 : (0 : Int) ≤ (p : Int) := by omega
      have hi1 : (p : Int) ≤ (e : Int) := by omega
      have hi2 : (e : Int) ≤ (q.size : Int) := by omega
      have htx2 : tx.size ≤ 1099511627776 := by omega
      clear hge he hbd htx
      go_wp2_with fail
      refine wp_region_of (by kernel_rfl) (by kernel_rfl) ?_
      repeat (go_big_quiet_step ((first | (go_at_call 24; exact calls_of (implFramed_any _ _ htx2)) | rfl)))
      refine wpQuiet_nil ?_
      intro w11 hw11
      obtain ⟨⟨wx, cx⟩, hwx⟩ := hw11
      have c11 : Below w10.heap.size w10 w11 := by rw [hwx]; exact cx
      clear hwx cx wx
      clear hne hfr
      have b11 := b10.trans (c11.mono b10.size)
      have LC11 : Hid (∀ j u, (xs.map Value.string)[j]? = some u → ∃ g off, o = some ⟨g, off, none⟩ ∧ g < w11.heap.size ∧ w11.cell? ⟨g, off + j, none⟩ = some u) := fun j u hj => by
        obtain ⟨g, off, e, hg, hx⟩ := LC.out j u hj
        exact ⟨g, off, e, Nat.lt_of_lt_of_le hg c11.size, (c11.cell (p := ⟨g, off + j, none⟩) hg).trans hx⟩
      clear c11 LC b10
      go_wp2_with fail
      go_loopw [16, 17] (fun v i wr => ∃ (k : Nat) (acc : ByteArray), k ≤ xs.length ∧ i = .int .i64 k ∧ v = .string acc ∧ acc.data.toList = Fr.cat (xs.take k) ∧ Below w11.heap.size w11 wr) (fun _ i _ => xs.length - (intOf i).toNat)
      case atStart => exact ⟨0, ⟨#[]⟩, Nat.zero_le _, rfl, rfl, rfl, Below.refl _ _⟩
      case round =>
        obtain ⟨k, acc, hk, rfl, rfl, hacc, hb⟩ := hrel
        have HK : Hid (acc.data.toList = Fr.cat (xs.take k)) := hacc
        have hal : acc.size ≤ 102 := by
          rw [Fr.size_list acc _ hacc]
          have h1 := Fr.cat_take_le xs k
          rw [HC.out] at h1
          simp at h1
          omega
        clear hacc
        by_cases hlt : k < xs.length
        · obtain ⟨g, off, rfl, hg, hx⟩ := LC11.out k (.string xs[k]) (by simp [hlt])
          have hx1 : wr.cell? ⟨g, off + k, none⟩ = some (.string xs[k]) := (hb.cell (p := ⟨g, off + k, none⟩) hg).trans hx
          have hxs : xs[k].size ≤ 102 := Nat.le_trans (HM.out _ (List.getElem_mem hlt)) hsz
          have HN : Hid (Fr.cat (xs.take (k + 1)) = acc.data.toList ++ (Fr.framedS xs[k]).data.toList) := by rw [Hid, Fr.cat_take xs k hlt, HK.out]
          generalize xs[k] = x at hx1 hxs HN
          clear hx
          go_wp2_with fail
          refine (specFramed_any _ _ (by omega)).mono ?_
          rintro e w12 ⟨rfl, c12⟩
          have hb12 := hb.trans (c12.mono hb.size)
          have hfz : (Fr.framedS x).size ≤ 111 := by unfold Fr.framedS; split; exact Nat.zero_le _; have := framed2_size x; omega
          generalize Fr.framedS x = fx at hfz HN ⊢
          go_wp2_with fail
          go_roundw
          case rel => exact ⟨k + 1, acc ++ fx, by omega, by go_num, rfl, by rw [HN.out]; simp, hb12⟩
          case measure => simp [intOf]; omega
        · have hfin : acc = s.extract 0 n := Fr.ba_ext (by
            rw [HK.out, List.take_of_length_le (by omega), HC.out]
            simp)
          subst hfin
          have bw := b11.trans (hb.mono b11.size)
          have hn0 : (0 : Int) ≤ (n : Int) := by omega
          have hn1 : (n : Int) ≤ (s.size : Int) := by omega
          clear HK LC11 HC HM b11 hb
          by_cases h60 : 60 < t.size
          · have he : (Fr.framedS t).toList.isEmpty = true := by rw [ByteArray.toList_eq]; unfold Fr.framedS; rw [if_pos h60]; rfl
            have h60' : (60 : Int) < (t.size : Int) := by omega
            go_wp2_with fail
            go_ret
            exact ⟨rfl, bw⟩
          · have hfs : Fr.framedS t = Fr.framed2 t := by unfold Fr.framedS; rw [if_neg h60]
            have hfl := Fr.framed2_list t (by omega)
            rw [hfs]
            generalize Fr.framed2 t = f at hfl ⊢
            have hfz : f.size = t.size + 4 := by rw [Fr.size_list f _ hfl, Fr.fl_length]; simp
            have he : f.toList.isEmpty = false := by rw [ByteArray.toList_eq, hfl]; rfl
            have HF : Hid (f.data.toList = Fr.fl t.data.toList) := hfl
            have HZ : Hid (f.size = t.size + 4) := hfz
            have hz1 : 0 < f.size := by omega
            have hz2 : f.size ≤ 64 := by omega
            clear hfl hfs hfz
            go_wp2_with fail
            refine (pick_any _ _ _ _ _ _ ((hs.below bw).mono bw.size) (by omega) (by omega) (by omega) (by omega) (by omega)).mono ?_
            rintro e w13 ⟨pk, rfl, hpk, rfl⟩
            obtain ⟨pn, rfl⟩ := Int.eq_ofNat_of_zero_le hpk.1
            have hff : (f ++ f).size = f.size + f.size := ByteArray.size_append
            have hff2 : (f ++ f).size ≤ 128 := by omega
            have hpx : (f.extract 0 pn).size ≤ 64 := by rw [ByteArray.size_extract]; omega
            have hall3 := Fr.frAll_twice (f ++ f ++ f.extract 0 pn) t pn (by omega) (by have := HZ.out; omega) (by simp [HF.out])
            have hz3 : (f ++ f ++ f.extract 0 pn).size ≤ 1099511627776 := by rw [ByteArray.size_append]; omega
            have HALL : Hid (Fr.frAll (f ++ f ++ f.extract 0 pn) = ([t, t], 2 * (t.size + 4))) := hall3
            clear hall3 hff
            go_wp2_with fail
            refine (implFrames_any _ _ hz3).mono ?_
            rw [HALL.out]
            rintro e w14 ⟨yv2, rfl, yo2, c14⟩
            have bw14 := bw.trans (c14.mono bw.size)
            obtain ⟨o2, cap2, rfl, _, hc2, -⟩ := Reads.of_own yo2
            obtain ⟨g2, off2, rfl, hg2, hy0⟩ := hc2 0 (.string t) rfl
            obtain ⟨g3, off3, ho3, hg3, hy1⟩ := hc2 1 (.string t) rfl
            obtain ⟨rfl, rfl⟩ : g2 = g3 ∧ off2 = off3 := by simpa using ho3
            have h2 : (2 * (t.size + 4) : Int) = 2 * (f.size : Int) := by have := HZ.out; omega
            have h2n : 2 * (t.size + 4) = 2 * f.size := by have := HZ.out; omega
            simp only [h2n]
            rw [Nat.add_zero] at hy0
            clear yo2 hc2 c14 HALL HF HZ h2 h2n ho3
            go_wp2_with fail
            go_ret
            exact ⟨rfl, bw14⟩
    · have hg1 : decide ((0 : Int) ≤ Fr.frEnd q at_) = false := by simpa using hge
      have hg2 : Fr.frEnd q at_ < 0 := by omega
      generalize Fr.frText q at_ = tx at *
      generalize Fr.frEnd q at_ = E at *
      clear hge hbd htx
      go_wp2_with fail
      refine wp_region_of (by kernel_rfl) (by kernel_rfl) ?_
      repeat (go_big_quiet_step (rfl))
      refine wpQuiet_nil ?_
      intro w11 hw11
      obtain ⟨⟨wx, cx⟩, hwx⟩ := hw11
      have c11 : Below w10.heap.size w10 w11 := by rw [hwx]; exact cx
      clear hwx cx wx
      clear hne
      have b11 := b10.trans (c11.mono b10.size)
      have LC11 : Hid (∀ j u, (xs.map Value.string)[j]? = some u → ∃ g off, o = some ⟨g, off, none⟩ ∧ g < w11.heap.size ∧ w11.cell? ⟨g, off + j, none⟩ = some u) := fun j u hj => by
        obtain ⟨g, off, e, hg, hx⟩ := LC.out j u hj
        exact ⟨g, off, e, Nat.lt_of_lt_of_le hg c11.size, (c11.cell (p := ⟨g, off + j, none⟩) hg).trans hx⟩
      clear c11 LC b10
      go_wp2_with fail
      go_loopw [16, 17] (fun v i wr => ∃ (k : Nat) (acc : ByteArray), k ≤ xs.length ∧ i = .int .i64 k ∧ v = .string acc ∧ acc.data.toList = Fr.cat (xs.take k) ∧ Below w11.heap.size w11 wr) (fun _ i _ => xs.length - (intOf i).toNat)
      case atStart => exact ⟨0, ⟨#[]⟩, Nat.zero_le _, rfl, rfl, rfl, Below.refl _ _⟩
      case round =>
        obtain ⟨k, acc, hk, rfl, rfl, hacc, hb⟩ := hrel
        have HK : Hid (acc.data.toList = Fr.cat (xs.take k)) := hacc
        have hal : acc.size ≤ 102 := by
          rw [Fr.size_list acc _ hacc]
          have h1 := Fr.cat_take_le xs k
          rw [HC.out] at h1
          simp at h1
          omega
        clear hacc
        by_cases hlt : k < xs.length
        · obtain ⟨g, off, rfl, hg, hx⟩ := LC11.out k (.string xs[k]) (by simp [hlt])
          have hx1 : wr.cell? ⟨g, off + k, none⟩ = some (.string xs[k]) := (hb.cell (p := ⟨g, off + k, none⟩) hg).trans hx
          have hxs : xs[k].size ≤ 102 := Nat.le_trans (HM.out _ (List.getElem_mem hlt)) hsz
          have HN : Hid (Fr.cat (xs.take (k + 1)) = acc.data.toList ++ (Fr.framedS xs[k]).data.toList) := by rw [Hid, Fr.cat_take xs k hlt, HK.out]
          generalize xs[k] = x at hx1 hxs HN
          clear hx
          go_wp2_with fail
          refine (specFramed_any _ _ (by omega)).mono ?_
          rintro e w12 ⟨rfl, c12⟩
          have hb12 := hb.trans (c12.mono hb.size)
          have hfz : (Fr.framedS x).size ≤ 111 := by unfold Fr.framedS; split; exact Nat.zero_le _; have := framed2_size x; omega
          generalize Fr.framedS x = fx at hfz HN ⊢
          go_wp2_with fail
          go_roundw
          case rel => exact ⟨k + 1, acc ++ fx, by omega, by go_num, rfl, by rw [HN.out]; simp, hb12⟩
          case measure => simp [intOf]; omega
        · have hfin : acc = s.extract 0 n := Fr.ba_ext (by
            rw [HK.out, List.take_of_length_le (by omega), HC.out]
            simp)
          subst hfin
          have bw := b11.trans (hb.mono b11.size)
          have hn0 : (0 : Int) ≤ (n : Int) := by omega
          have hn1 : (n : Int) ≤ (s.size : Int) := by omega
          clear HK LC11 HC HM b11 hb
          by_cases h60 : 60 < t.size
          · have he : (Fr.framedS t).toList.isEmpty = true := by rw [ByteArray.toList_eq]; unfold Fr.framedS; rw [if_pos h60]; rfl
            have h60' : (60 : Int) < (t.size : Int) := by omega
            go_wp2_with fail
            go_ret
            exact ⟨rfl, bw⟩
          · have hfs : Fr.framedS t = Fr.framed2 t := by unfold Fr.framedS; rw [if_neg h60]
            have hfl := Fr.framed2_list t (by omega)
            rw [hfs]
            generalize Fr.framed2 t = f at hfl ⊢
            have hfz : f.size = t.size + 4 := by rw [Fr.size_list f _ hfl, Fr.fl_length]; simp
            have he : f.toList.isEmpty = false := by rw [ByteArray.toList_eq, hfl]; rfl
            have HF : Hid (f.data.toList = Fr.fl t.data.toList) := hfl
            have HZ : Hid (f.size = t.size + 4) := hfz
            have hz1 : 0 < f.size := by omega
            have hz2 : f.size ≤ 64 := by omega
            clear hfl hfs hfz
            go_wp2_with fail
            refine (pick_any _ _ _ _ _ _ ((hs.below bw).mono bw.size) (by omega) (by omega) (by omega) (by omega) (by omega)).mono ?_
            rintro e w13 ⟨pk, rfl, hpk, rfl⟩
            obtain ⟨pn, rfl⟩ := Int.eq_ofNat_of_zero_le hpk.1
            have hff : (f ++ f).size = f.size + f.size := ByteArray.size_append
            have hff2 : (f ++ f).size ≤ 128 := by omega
            have hpx : (f.extract 0 pn).size ≤ 64 := by rw [ByteArray.size_extract]; omega
            have hall3 := Fr.frAll_twice (f ++ f ++ f.extract 0 pn) t pn (by omega) (by have := HZ.out; omega) (by simp [HF.out])
            have hz3 : (f ++ f ++ f.extract 0 pn).size ≤ 1099511627776 := by rw [ByteArray.size_append]; omega
            have HALL : Hid (Fr.frAll (f ++ f ++ f.extract 0 pn) = ([t, t], 2 * (t.size + 4))) := hall3
            clear hall3 hff
            go_wp2_with fail
            refine (implFrames_any _ _ hz3).mono ?_
            rw [HALL.out]
            rintro e w14 ⟨yv2, rfl, yo2, c14⟩
            have bw14 := bw.trans (c14.mono bw.size)
            obtain ⟨o2, cap2, rfl, _, hc2, -⟩ := Reads.of_own yo2
            obtain ⟨g2, off2, rfl, hg2, hy0⟩ := hc2 0 (.string t) rfl
            obtain ⟨g3, off3, ho3, hg3, hy1⟩ := hc2 1 (.string t) rfl
            obtain ⟨rfl, rfl⟩ : g2 = g3 ∧ off2 = off3 := by simpa using ho3
            have h2 : (2 * (t.size + 4) : Int) = 2 * (f.size : Int) := by have := HZ.out; omega
            have h2n : 2 * (t.size + 4) = 2 * f.size := by have := HZ.out; omega
            simp only [h2n]
            rw [Nat.add_zero] at hy0
            clear yo2 hc2 c14 HALL HF HZ h2 h2n ho3
            go_wp2_with fail
            go_ret
            exact ⟨rfl, bw14⟩

set_option maxRecDepth 100000 in
theorem lifted (os : Os) (started : os.Started) (H : Type) (enc : TypeId × Value → H) :
    ReturnsInHanded {} Try.checked os 4 .any (Rows.fnFramesSpec.pre6 enc Try.prog Try.f4 Rows.fnFramesRow.domain false) (Rows.fnFramesSpec.post enc Try.prog Try.f4 false true false false) := by
  refine returnsInHanded_of_change (C := Try.checked) own started (by kernel_rfl) Try.func4
    (ChangeSpec.witness6 (enc := enc) (C := Try.checked) false ⟨#[], #[.slice none 0 0], []⟩ 8 (by kernel_rfl) (by kernel_rfl) (by kernel_rfl) (by kernel_rfl)) ?_
  intro W base args ds gs before hval0 hW hcnd _
  have hval : ∀ (j : Nat) t v, Try.f4.params[j]? = some t → args[j]? = some v → Value.okWide Try.prog W .any base t v := hval0
  have hW' := hW
  obtain ⟨p, q, hA0, hV, rfl, hfz, hnd⟩ := hW
  have hA : DataW.TrodAll enc Try.prog W 0 (fun _ => true) true Try.f4.params.toList args.toList ds p := hA0
  rw [Try.params4] at hA hval
  obtain ⟨v0, vs0, d0, ds0, p0, q0, hargs, rfl, rfl, h0, r0⟩ := trodAll_cons hA
  obtain ⟨rfl, rfl, rfl⟩ := trodAll_nil r0
  obtain rfl : args = #[v0] := by cases args; simp_all
  obtain ⟨rfl, rfl⟩ := trodVars_none hV
  obtain ⟨a0, len0, cap0, rfl⟩ := okWide_slice Try.underlying22 (hval 0 22 v0 rfl rfl)
  have k0 := h0
  have lt0 : ∀ x ∈ p0, x.block < W.heap.size := by obtain ⟨m, hm⟩ := k0; exact DataW.trod_lt m _ _ _ hm
  obtain ⟨z0, w0⟩ : ∃ zs, IsRow .u8 W a0 len0 cap0 zs := by
    obtain ⟨fuel, hf⟩ := h0
    rcases open_ints Try.underlying22 Try.underlying5 (by kernel_rfl) hf with ⟨hcs, _⟩ | ⟨x, l, c, zs, hcs, _, hl, hm, hz, _, hcell, hwz⟩
    · simp [Value.cells] at hcs
      obtain ⟨rfl, rfl, rfl⟩ := hcs
      exact ⟨[], .inl ⟨rfl, rfl, rfl, rfl⟩⟩
    · simp [Value.cells] at hcs
      obtain ⟨rfl, rfl, rfl⟩ := hcs
      exact ⟨zs, .inr ⟨_, rfl, hl, hm, by simpa using hz, hcell, hwz⟩⟩
  clear hA0 hval0
  refine (walk a0 len0 cap0 z0 W w0).mono fun e W' ⟨he, bel⟩ => ?_
  subst he
  exact ⟨_, rfl, _, _, _, [], _, [], hW', trodAll_mk1 (shut_bool Try.underlying4 _), (trodAll_cons_mk (Below.trod laidOut (by kernel_rfl) (of_decide_eq_true (by kernel_rfl)) k0 bel lt0) trodAll_mk0), rfl, bel.frame _, fun h => by cases h⟩

theorem over : Rows.fnFramesRow.holds Try.pinned (OpenSpec.ofChange Rows.fnFramesSpec) :=
  OpenClaim.holds_of_wide 4 Try.f4 rfl rfl rfl rfl rfl rfl rfl ⟨rfl, rfl, rfl, rfl, rfl⟩ rfl rfl rfl rfl rfl (by kernel_rfl) Try.func4 (by kernel_rfl)
    (of_decide_eq_true (by kernel_rfl)) (by unfold Func.isWrapper; first | (rw [if_pos (by decide +kernel)]; kernel_rfl) | (rw [if_neg (by decide +kernel)]; exact ⟨rfl, rfl⟩))
    (fun os started H enc _ => lifted os started H enc)

theorem proved : Rows.FnFramesSaid := over
#print axioms proved
end Go.Proofs.Ytbjkbhchcoabcaa.fnFrames
