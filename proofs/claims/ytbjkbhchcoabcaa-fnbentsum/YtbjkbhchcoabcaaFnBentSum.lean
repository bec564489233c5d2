/-
  The law FnBentSum answers true at every input that the row speaks of, and its arguments read afterwards as before; the walk goes over the callees' contracts.
-/
import Derived.Test.YtbjkbhchcoabcaaRows
import Derived.WalkKit
import Derived.Test.YtbjkbhchcoabcaaFrame2
import Derived.Test.YtbjkbhchcoabcaaImFrame2
import Derived.Test.YtbjkbhchcoabcaaFrameN
import Derived.Test.YtbjkbhchcoabcaaDrawFr
import Derived.Test.YtbjkbhchcoabcaaBytesRow
import Derived.ProofKit
import Derived.OpenShut
import Derived.ShutString
import Derived.ChangeOld
import Derived.Below
namespace Go.Proofs.Ytbjkbhchcoabcaa.fnBentSum
open Go.ChangeShapes Go.WideShapes Go.ChangeAt Go.RowKit
open Go.ChangeMaps (open_string shut_string)
set_option linter.unusedVariables false

theorem own : ownKnob Try.prog.godebug = none := by kernel_rfl
theorem laidOut : laidOutB Try.prog = true := by kernel_rfl

def IsRow (k : IntKind) (w : World) (a : Option Addr) (len cap : Nat) (zs : List Int) : Prop :=
  (a = none ∧ len = 0 ∧ cap = 0 ∧ zs = []) ∨
  ∃ x, a = some x ∧ len ≤ cap ∧ cap ≤ maxLen ∧ zs.length = cap ∧ (∀ i, i < zs.length → w.cell? (x.add i) = some (.int k (zs.getD i 0))) ∧ ∀ n ∈ zs, (Lit.int k n).wf = true

set_option maxRecDepth 100000 in
set_option maxHeartbeats 8000000 in
theorem walk (a0 : Option Addr) (len0 cap0 : Nat) (z0 : List Int) (w : World) (w0 : IsRow .u8 w a0 len0 cap0 z0) :
    Calls Try.prog 5 #[.slice a0 len0 cap0] w fun e w' => e = .returned (.bool true) ∧ Below w.heap.size w w' := by
  have hs : Src w w.heap.size a0 len0 := src_of w0
  have hm := hs.1
  by_cases hbig : (4096 : Int) < (len0 : Int)
  · have hd : decide ((4096 : Int) < (len0 : Int)) = true := by simpa using hbig
    go_enter Try.func5, Try.ntmps5
    go_wp2_with (go_at_call 8; refine (big_any _ _ _ _ hm).mono ?_; rintro e w' ⟨rfl, rfl⟩)
    go_ret
    exact ⟨rfl, Below.refl _ _⟩
  · have hd : decide ((4096 : Int) < (len0 : Int)) = false := by simpa using hbig
    clear w0
    go_enter Try.func5, Try.ntmps5
    go_wp2_with fail
    refine (big_any _ _ _ _ hm).mono ?_
    rintro e w' ⟨rfl, rfl⟩
    go_wp2_with fail
    refine (drawFramed_any _ _ _ _ hs).mono ?_
    rintro e w1 ⟨t, rfl, ht, b1⟩
    go_wp2_with fail
    refine (specFramed_any _ _ (by omega)).mono ?_
    rintro e w2 ⟨rfl, c2⟩
    have b2 := b1.trans (c2.mono b1.size)
    clear c2
    by_cases h60 : 60 < t.size
    · have he : (Fr.framedS t).toList.isEmpty = true := by rw [ByteArray.toList_eq]; unfold Fr.framedS; rw [if_pos h60]; rfl
      go_wp2_with fail
      refine (implFramed_any _ _ (by omega)).mono ?_
      rintro e w3 ⟨rfl, c3⟩
      have b3 := b2.trans (c3.mono b2.size)
      go_wp2_with fail
      go_ret
      exact ⟨rfl, b3⟩
    · have hfs : Fr.framedS t = Fr.framed2 t := by unfold Fr.framedS; rw [if_neg h60]
      have hfl := Fr.framed2_list t (by omega)
      rw [hfs]
      generalize Fr.framed2 t = f at hfl ⊢
      have hfz : f.size = t.size + 4 := by rw [Fr.size_list f _ hfl, Fr.fl_length]; simp
      have he : f.toList.isEmpty = false := by rw [ByteArray.toList_eq, hfl]; rfl
      have HF : Hid (f.data.toList = Fr.fl t.data.toList) := hfl
      have HZ : Hid (f.size = t.size + 4) := hfz
      have hz1 : 0 < f.size := by omega
      have hz2 : f.size ≤ 64 := by omega
      clear hfl hfs hfz
      go_wp2_with fail
      refine (pick_any _ _ _ _ _ _ ((hs.below b2).mono b2.size) (by omega) (by omega) (by omega) (by omega) (by omega)).mono ?_
      rintro e w3 ⟨at_, rfl, hat, rfl⟩
      obtain ⟨ad, rfl⟩ := Int.eq_ofNat_of_zero_le hat.1
      obtain ⟨cap, w4, hcv, c4, hz4, hcell, hfroz, hcap⟩ := bytes_new f w3
      have b4 := b2.trans (c4.mono b2.size)
      go_wp2_with fail
      refine (pick_any _ _ _ _ _ _ ((hs.below b4).mono b4.size) (by omega) (by omega) (by omega) (by omega) (by omega)).mono ?_
      rintro e w5 ⟨y, rfl, hy, rfl⟩
      obtain ⟨v, rfl⟩ := byte_of y hy.1 (by omega)
      have hadl : ad < f.data.toList.length := by simp; omega
      have hadz : ad < f.size := by omega
      have h60' : t.size ≤ 60 := by omega
      have hc0 := hcell ad _ (List.getElem?_eq_getElem hadl)
      have hf0 := hfroz ad hadz
      have hcell6 := cells_set w5 w3.heap.size ad f.data.toList v hadl hcell
      have hback := bytes_back _ w3.heap.size cap f.size (f.data.toList.set ad v) (by simp) hcell6
      obtain ⟨s', hs'⟩ : ∃ s' : ByteArray, s'.data.toList = f.data.toList.set ad v := ⟨⟨(f.data.toList.set ad v).toArray⟩, rfl⟩
      have hsv : (⟨(f.data.toList.set ad v).toArray⟩ : ByteArray) = s' := by apply ByteArray.ext; apply Array.toList_inj.1; rw [hs']
      rw [hsv] at hback
      have hsz : s'.size ≤ 1099511627776 := by rw [Fr.size_list s' _ hs']; simp; omega
      have b6 : Below w'.heap.size w' (w5.setCell ⟨w3.heap.size, ad, none⟩ (.int .u8 v.toNat)) := b4.setCell (by exact b2.size) _
      have hg5 : w3.heap.size < w5.heap.size := by omega
      have hbs := b2.size
      generalize w3.heap.size = g at *
      generalize f.data.toList[ad] = u0 at hc0
      clear hcell hfroz hcv c4 hz4 b1 b2
      by_cases hveq : v = f[ad]
      · have hlf : f.data.toList.set ad v = f.data.toList := by rw [hveq]; exact List.set_getElem_self hadl
        have hte : ((v.toNat : Int) == (f[ad].toNat : Int)) = true := by rw [hveq]; simp
        have hsf : s'.data.toList = [] ++ (Fr.fl t.data.toList ++ []) := by rw [hs', hlf, ← HF.out]; simp
        obtain ⟨r1, r2⟩ := Fr.frEnd_fl s' [] t.data.toList [] hsf (by simpa using h60')
        have hE : Fr.frEnd s' 0 = (f.size : Int) := by rw [HZ.out]; simpa using r1
        have hX : Fr.frText s' 0 = t := by apply ByteArray.ext; exact Array.toList_inj.1 r2
        have HE : Hid (Fr.frEnd s' 0 = (f.size : Int)) := hE
        have HX : Hid (Fr.frText s' 0 = t) := hX
        clear r1 r2 hE hX hsf hveq hlf
        go_wp2_with fail
        refine (implFrame_any _ _ _ hsz).mono ?_
        rintro e w7 ⟨rfl, c7⟩
        have hcell7 : ∀ j u, (f.data.toList.set ad v)[j]? = some u → w7.cell? ⟨g, j, none⟩ = some (.int .u8 u.toNat) := fun j u hj => (c7.cell (p := ⟨g, j, none⟩) (by simp [go_sem]; omega)).trans (hcell6 j u hj)
        have hback7 := bytes_back w7 g cap f.size (f.data.toList.set ad v) (by simp) hcell7
        rw [hsv] at hback7
        have hz7 : g < w7.heap.size := by have := c7.size; simp [go_sem] at this; omega
        clear hback hcell6
        go_wp2_with fail
        refine (specFrame_any _ _ _ hsz).mono ?_
        rintro e w8 ⟨rfl, c8⟩
        have hc8 : w8.cell? ⟨g, ad, none⟩ = some (.int .u8 v.toNat) := (c8.cell (p := ⟨g, ad, none⟩) hz7).trans (hcell7 ad v (by rw [List.getElem?_set_self hadl]))
        have b8 : Below w'.heap.size w' w8 := (b6.trans (c7.mono b6.size)).trans (c8.mono (b6.trans (c7.mono b6.size)).size)
        clear hback7 hcell7 c7 c8
        rw [HE.out, HX.out]
        go_wp2_with fail
        go_quiet (fail)
        go_wp2_with fail
        go_ret
        exact ⟨rfl, ⟨b8.os, b8.tape, b8.output, b8.size, b8.block⟩⟩
      · skip
        have hte : ((v.toNat : Int) == (f[ad].toNat : Int)) = false := by rw [beq_eq_false_iff_ne]; intro h; exact hveq (UInt8.toNat.inj (by omega))
        have hE : ad ≠ 1 → Fr.frEnd s' 0 = -1 := fun h1 => Fr.bent s' t.data.toList ad v (by simpa using h60') (by have := HZ.out; simp; omega) h1 (by rw [hs', HF.out]) (by rw [← HF.out, List.getElem?_eq_getElem hadl]; intro h; apply hveq; have := Option.some.inj h; rw [← this]; rfl)
        have HE : Hid (ad ≠ 1 → Fr.frEnd s' 0 = -1) := hE
        clear hE
        go_wp2_with fail
        refine (implFrame_any _ _ _ hsz).mono ?_
        rintro e w7 ⟨rfl, c7⟩
        have hcell7 : ∀ j u, (f.data.toList.set ad v)[j]? = some u → w7.cell? ⟨g, j, none⟩ = some (.int .u8 u.toNat) := fun j u hj => (c7.cell (p := ⟨g, j, none⟩) (by simp [go_sem]; omega)).trans (hcell6 j u hj)
        have hback7 := bytes_back w7 g cap f.size (f.data.toList.set ad v) (by simp) hcell7
        rw [hsv] at hback7
        have hz7 : g < w7.heap.size := by have := c7.size; simp [go_sem] at this; omega
        clear hback hcell6
        go_wp2_with fail
        refine (specFrame_any _ _ _ hsz).mono ?_
        rintro e w8 ⟨rfl, c8⟩
        have hc8 : w8.cell? ⟨g, ad, none⟩ = some (.int .u8 v.toNat) := (c8.cell (p := ⟨g, ad, none⟩) hz7).trans (hcell7 ad v (by rw [List.getElem?_set_self hadl]))
        have b8 : Below w'.heap.size w' w8 := (b6.trans (c7.mono b6.size)).trans (c8.mono (b6.trans (c7.mono b6.size)).size)
        clear hback7 hcell7 c7 c8
        by_cases had1 : ad = 1
        · have hn1 : ((ad : Int) == 1) = true := by simp; omega
          clear had1
          generalize Fr.frEnd s' 0 = E
          go_wp2_with fail
          go_quiet (fail)
          go_wp2_with fail
          go_ret
          exact ⟨rfl, ⟨b8.os, b8.tape, b8.output, b8.size, b8.block⟩⟩
        · rw [HE.out had1]
          have hn1 : ((ad : Int) == 1) = false := by simp; omega
          go_wp2_with fail
          go_quiet (fail)
          go_wp2_with fail
          go_ret
          exact ⟨rfl, ⟨b8.os, b8.tape, b8.output, b8.size, b8.block⟩⟩

set_option maxRecDepth 100000 in
theorem lifted (os : Os) (started : os.Started) (H : Type) (enc : TypeId × Value → H) :
    ReturnsInHanded {} Try.checked os 5 .any (Rows.fnBentSumSpec.pre6 enc Try.prog Try.f5 Rows.fnBentSumRow.domain false) (Rows.fnBentSumSpec.post enc Try.prog Try.f5 false true false false) := by
  refine returnsInHanded_of_change (C := Try.checked) own started (by kernel_rfl) Try.func5
    (ChangeSpec.witness6 (enc := enc) (C := Try.checked) false ⟨#[], #[.slice none 0 0], []⟩ 8 (by kernel_rfl) (by kernel_rfl) (by kernel_rfl) (by kernel_rfl)) ?_
  intro W base args ds gs before hval0 hW hcnd _
  have hval : ∀ (j : Nat) t v, Try.f5.params[j]? = some t → args[j]? = some v → Value.okWide Try.prog W .any base t v := hval0
  have hW' := hW
  obtain ⟨p, q, hA0, hV, rfl, hfz, hnd⟩ := hW
  have hA : DataW.TrodAll enc Try.prog W 0 (fun _ => true) true Try.f5.params.toList args.toList ds p := hA0
  rw [Try.params5] at hA hval
  obtain ⟨v0, vs0, d0, ds0, p0, q0, hargs, rfl, rfl, h0, r0⟩ := trodAll_cons hA
  obtain ⟨rfl, rfl, rfl⟩ := trodAll_nil r0
  obtain rfl : args = #[v0] := by cases args; simp_all
  obtain ⟨rfl, rfl⟩ := trodVars_none hV
  obtain ⟨a0, len0, cap0, rfl⟩ := okWide_slice Try.underlying22 (hval 0 22 v0 rfl rfl)
  have k0 := h0
  have lt0 : ∀ x ∈ p0, x.block < W.heap.size := by obtain ⟨m, hm⟩ := k0; exact DataW.trod_lt m _ _ _ hm
  obtain ⟨z0, w0⟩ : ∃ zs, IsRow .u8 W a0 len0 cap0 zs := by
    obtain ⟨fuel, hf⟩ := h0
    rcases open_ints Try.underlying22 Try.underlying5 (by kernel_rfl) hf with ⟨hcs, _⟩ | ⟨x, l, c, zs, hcs, _, hl, hm, hz, _, hcell, hwz⟩
    · simp [Value.cells] at hcs
      obtain ⟨rfl, rfl, rfl⟩ := hcs
      exact ⟨[], .inl ⟨rfl, rfl, rfl, rfl⟩⟩
    · simp [Value.cells] at hcs
      obtain ⟨rfl, rfl, rfl⟩ := hcs
      exact ⟨zs, .inr ⟨_, rfl, hl, hm, by simpa using hz, hcell, hwz⟩⟩
  clear hA0 hval0
  refine (walk a0 len0 cap0 z0 W w0).mono fun e W' ⟨he, bel⟩ => ?_
  subst he
  exact ⟨_, rfl, _, _, _, [], _, [], hW', trodAll_mk1 (shut_bool Try.underlying4 _), (trodAll_cons_mk (Below.trod laidOut (by kernel_rfl) (of_decide_eq_true (by kernel_rfl)) k0 bel lt0) trodAll_mk0), rfl, bel.frame _, fun h => by cases h⟩

theorem over : Rows.fnBentSumRow.holds Try.pinned (OpenSpec.ofChange Rows.fnBentSumSpec) :=
  OpenClaim.holds_of_wide 5 Try.f5 rfl rfl rfl rfl rfl rfl rfl ⟨rfl, rfl, rfl, rfl, rfl⟩ rfl rfl rfl rfl rfl (by kernel_rfl) Try.func5 (by kernel_rfl)
    (of_decide_eq_true (by kernel_rfl)) (by unfold Func.isWrapper; first | (rw [if_pos (by decide +kernel)]; kernel_rfl) | (rw [if_neg (by decide +kernel)]; exact ⟨rfl, rfl⟩))
    (fun os started H enc _ => lifted os started H enc)

theorem proved : Rows.FnBentSumSaid := over
#print axioms proved
end Go.Proofs.Ytbjkbhchcoabcaa.fnBentSum
