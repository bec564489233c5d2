/-
  The law FnExactReads answers true at every input that the row speaks of, its arguments and the named variables read afterwards as before; the listed variables are tied to the program's text; the walk goes over the callees' contracts.
-/
import Derived.Test.YtaekdfknkgmfbaaGreatDoorRows
import Derived.Test.YtaekdfknkgmfbaaGreatDoorTie
import Derived.Test.YtaekdfknkgmfbaaGreatDoorCards
import Derived.SevenTiedAt
import Derived.JoinedOf
import Derived.OpenVars
import Derived.WalkKit
import Derived.ProofKit
import Derived.OpenShut
import Derived.ChangeOld
import Derived.Below
import Derived.Carry
import Derived.Deep.RegionHeld3
import Derived.Test.YtaekdfknkgmfbaaGreatDoorM02
import Derived.Test.YtaekdfknkgmfbaaGreatDoorM03
import Derived.Test.YtaekdfknkgmfbaaGreatDoorM04
import Derived.Test.YtaekdfknkgmfbaaGreatDoorM05
import Derived.Test.YtaekdfknkgmfbaaGreatDoorM06
import Derived.Test.YtaekdfknkgmfbaaGreatDoorM07
import Derived.Test.YtaekdfknkgmfbaaGreatDoorM14
import Derived.Test.YtaekdfknkgmfbaaGreatDoorM24
namespace Go.Proofs.YtaekdfknkgmfbaaGreatDoor.fnExactReads
open Go Go.ChangeShapes Go.WideShapes Go.ChangeAt Go.RowKit
set_option linter.unusedVariables false

theorem own : ownKnob Tryz.prog.godebug = none := by kernel_rfl
theorem laidOut : laidOutB Tryz.prog = true := by kernel_rfl
theorem vars_length {H : Type} {enc : TypeId × Value → H} {P : Program} {w : World} {sp : Nat → Bool} : ∀ {ns : List String} {gs : List (DataW H)} {ps : List MemPlace}, DataW.TrodVars enc P w sp ns gs ps → gs.length = ns.length
  | [], [], _, _ => rfl
  | [], _ :: _, _, h => h.elim
  | _ :: _, [], _, h => h.elim
  | n :: ns, d :: ds, _, h => by
    obtain ⟨_, _, _, _, _, _, _, _, _, _, h', _⟩ := h
    simp [vars_length h']

set_option maxHeartbeats 4000000 in
theorem walk (v0a v0b v0c : Value) (cs0 ps0 : List Int) (bs0 : List Bk) (a1 : ByteArray) (a2 : Int) (w : World) (w0 : RS w.heap.size w v0a v0b v0c cs0 ps0 bs0) (z0 : ∀ b ∈ bs0, FitRuns b.rs ∧ b.nm.size ≤ maxLen) (w1 : a1.size ≤ maxLen) (w2 : (Lit.int .i64 a2).wf = true) (ad : Nat → Addr) (hvs : VarsS w ad) :
    Calls Tryz.prog 10 #[.agg #[v0a, v0b, v0c], .string a1, .int .i64 a2] w fun e w' => e = .returned (.bool true) ∧ Below w.heap.size w w' := by
  have fa := lit_i64 w2
  have r0 := w0
  obtain ⟨WA, hWA, kA, d, zA⟩ := box1 w #[v0a, v0b, v0c] 72
  have sA : w.heap.size < WA.heap.size := by omega
  have y0 := d.size
  replace r0 := r0.below d
  have HWA : Hid (WA = _) := hWA
  have HN : Hid (∀ b ∈ bs0, b.nm.size ≤ maxLen) := fun b hb => (z0 b hb).2
  have HF : Hid (∀ b ∈ bs0, FitRuns b.rs) := fun b hb => (z0 b hb).1
  clear hWA zA w0 z0
  obtain ⟨nv, hnv⟩ : ∃ x, readsOf ⟨cs0, ps0, bs0.map Bk.pb⟩ a1 a2 = x := ⟨_, rfl⟩
  have HFD : Hid (readsOf ⟨cs0, ps0, bs0.map Bk.pb⟩ a1 a2 = nv) := hnv
  clear hnv
  have hm1 := w1
  unfold maxLen at hm1
  by_cases hbig : 1048576 < a1.size
  · have hb2 : (1048576 : Int) < (a1.size : Int) := by omega
    go_enter Tryz.func10, Tryz.ntmps10
    go_wp2_with fail
    go_ret
    exact ⟨rfl, bw_alloc (Below.refl _ _)⟩
  have hb2 : ¬ (1048576 : Int) < (a1.size : Int) := by omega
  go_enter Tryz.func10, Tryz.ntmps10
  go_wp2_with fail
  rw [← HWA.out]
  clear HWA
  refine (szShelf_any v0a v0b v0c cs0 ps0 bs0 1048576 _ (by omega) (by omega) HN.out (r0.mono y0)).mono ?_
  rintro e wb ⟨q, rfl, hq, b⟩
  replace d := bw_call d b
  replace kA := (b.block _ sA).trans kA
  replace sA := Nat.lt_of_lt_of_le sA b.size
  replace r0 := r0.below (b.mono y0)
  replace y0 := Nat.le_trans y0 b.size
  clear b
  rcases hq with rfl | ⟨hq0, hq1, hbc, hbp, hbb, hball⟩
  · go_wp2_with fail
    go_ret
    exact ⟨rfl, d⟩
  have HR : Hid (∀ b ∈ bs0, b.rs.length ≤ 1048576) := fun b hb => (hball b hb).2
  clear hball
  have pA0 := at_cell kA 0
  have pA1 := at_cell kA 1
  have pA2 := at_cell kA 2
  go_wp2_with fail
  clear pA0 pA1 pA2
  refine (toShelf_any v0a v0b v0c cs0 ps0 bs0 _ hbc hbp hbb HR.out (r0.mono y0)).mono ?_
  rintro e wc ⟨t1, t2, tb, ts, rfl, hpt, ot, b⟩
  replace d := bw_call d b
  replace kA := (b.block _ sA).trans kA
  replace sA := Nat.lt_of_lt_of_le sA b.size
  replace r0 := r0.below (b.mono y0)
  replace y0 := Nat.le_trans y0 b.size
  clear b
  have HPT : Hid _ := hpt
  clear hpt
  go_wp2_with fail
  refine (specReads_any t1 t2 tb cs0 ps0 ts a1 a2 _ (plain_all (fun nm _ => nm.size ≤ maxLen) HPT.out HN.out) w1 ot.reads.p.c ot.reads.p.p ot.reads.b).mono ?_
  rw [pb_of_plain HPT.out, HFD.out]
  rintro e wd ⟨rfl, b⟩
  replace d := bw_call d b
  replace kA := (b.block _ sA).trans kA
  replace sA := Nat.lt_of_lt_of_le sA b.size
  replace r0 := r0.below (b.mono y0)
  replace y0 := Nat.le_trans y0 b.size
  clear b
  clear ot
  have pA0 := at_cell kA 0
  have pA1 := at_cell kA 1
  have pA2 := at_cell kA 2
  go_wp2_with fail
  clear pA0 pA1 pA2
  have cX1 : w.heap.size < wd.heap.size := sA
  refine (toShelf_any v0a v0b v0c cs0 ps0 bs0 _ hbc hbp hbb HR.out (r0.mono y0)).mono ?_
  rintro e wf ⟨x1, x2, xb, xs, rfl, hpx, ox, b⟩
  have cX3 := b.size
  replace d := bw_call d b
  replace kA := (b.block _ sA).trans kA
  replace sA := Nat.lt_of_lt_of_le sA b.size
  replace r0 := r0.below (b.mono y0)
  replace y0 := Nat.le_trans y0 b.size
  clear b
  have HPX : Hid _ := hpx
  clear hpx
  obtain ⟨ox1, cx1, ox2, cx2, oxb, cxb, rfl, rfl, rfl⟩ := ox.forms
  have b : Below wf.heap.size wf (wf.alloc (.cells #[.slice ox1 cs0.length cx1, .slice ox2 ps0.length cx2, .slice oxb xs.length cxb] 29)) := bw_alloc (Below.refl _ _)
  have kX := heap_alloc_new wf (.cells #[.slice ox1 cs0.length cx1, .slice ox2 ps0.length cx2, .slice oxb xs.length cxb] 29)
  have sX : wf.heap.size < (wf.alloc (.cells #[.slice ox1 cs0.length cx1, .slice ox2 ps0.length cx2, .slice oxb xs.length cxb] 29)).heap.size := by simp
  replace d := bw_call d b
  replace kA := (b.block _ sA).trans kA
  replace sA := Nat.lt_of_lt_of_le sA b.size
  replace r0 := r0.below (b.mono y0)
  replace y0 := Nat.le_trans y0 b.size
  replace ox := ox.below b
  clear b
  have HNX : Hid (∀ b ∈ xs, b.nm.size ≤ maxLen) := plain_all (fun nm _ => nm.size ≤ maxLen) HPX.out HN.out
  have HFX : Hid (∀ b ∈ xs, FitRuns b.rs) := plain_all (fun _ rs => FitRuns rs) HPX.out HF.out
  have pX0 := at_cell kX 0
  have pX1 := at_cell kX 1
  have pX2 := at_cell kX 2
  go_wp2_with fail
  clear pX0 pX1 pX2
  generalize wf.alloc (.cells #[.slice ox1 cs0.length cx1, .slice ox2 ps0.length cx2, .slice oxb xs.length cxb] 29) = Wx at *
  have cX4 : wf.heap.size < Wx.heap.size := sX
  refine (implReads_any _ _ _ cs0 ps0 xs a1 a2 _ ad (hvs.below d) HNX.out HFX.out w1 fa ox.reads).mono ?_
  rw [pb_of_plain HPX.out, HFD.out]
  rintro e wg ⟨rfl, b⟩
  replace d := bw_call d b
  replace kA := (b.block _ sA).trans kA
  replace sA := Nat.lt_of_lt_of_le sA b.size
  replace r0 := r0.below (b.mono y0)
  replace y0 := Nat.le_trans y0 b.size
  replace ox := ox.below b
  replace kX := (b.block _ sX).trans kX
  replace sX := Nat.lt_of_lt_of_le sX b.size
  clear b
  have hself : (nv != nv) = false := by simp
  go_wp2_with fail
  have S0 : wg.drew.cell? ⟨wf.heap.size, 0, none⟩ = some (.slice ox1 cs0.length cx1) ∧ wg.drew.cell? ⟨wf.heap.size, 1, none⟩ = some (.slice ox2 ps0.length cx2) ∧ wg.drew.cell? ⟨wf.heap.size, 2, none⟩ = some (.slice oxb xs.length cxb) ∧ wg.drew.cell? ⟨w.heap.size, 0, none⟩ = some (v0a) ∧ wg.drew.cell? ⟨w.heap.size, 1, none⟩ = some (v0b) ∧ wg.drew.cell? ⟨w.heap.size, 2, none⟩ = some (v0c) := ⟨at_cell kX 0, at_cell kX 1, at_cell kX 2, at_cell kA 0, at_cell kA 1, at_cell kA 2⟩
  have RA : RS wg.drew.heap.size wg.drew v0a v0b v0c cs0 ps0 bs0 := (r0.mono y0).below ((Below.refl _ _).drew)
  have OX := ox.below (w' := wg.drew) ((Below.refl _ _).drew)
  go_region_held3 (fun w' => w'.cell? ⟨wf.heap.size, 0, none⟩ = some (.slice ox1 cs0.length cx1) ∧ w'.cell? ⟨wf.heap.size, 1, none⟩ = some (.slice ox2 ps0.length cx2) ∧ w'.cell? ⟨wf.heap.size, 2, none⟩ = some (.slice oxb xs.length cxb) ∧ w'.cell? ⟨w.heap.size, 0, none⟩ = some (v0a) ∧ w'.cell? ⟨w.heap.size, 1, none⟩ = some (v0b) ∧ w'.cell? ⟨w.heap.size, 2, none⟩ = some (v0c))
    ((first | exact S0 | exact S1 | exact S2))
    ((first | (go_at_call 47; refine (toShelf_any v0a v0b v0c cs0 ps0 bs0 _ hbc hbp hbb HR.out RA).mono ?_; rintro e wi ⟨t1, t2, tb, ts, rfl, hpt, ot, bi⟩; have kXi := (bi.block _ (show _ < wg.heap.size from sX)).trans kX; have kAi := (bi.block _ (show _ < wg.heap.size from sA)).trans kA; have S1 := And.intro (at_cell kXi 0) (And.intro (at_cell kXi 1) (And.intro (at_cell kXi 2) (And.intro (at_cell kAi 0) (And.intro (at_cell kAi 1) (at_cell kAi 2))))); have OXi := OX.below bi) | (go_at_call 49; refine (eqShelf_same _ _ _ _ _ _ cs0 ps0 xs ts _ (hpt.trans HPX.out.symm) OXi.reads ot.reads).mono ?_; rintro e wj ⟨rfl, bj⟩; have kXj := (bj.block _ (heap_lt kXi)).trans kXi; have kAj := (bj.block _ (heap_lt kAi)).trans kAi; have S2 := And.intro (at_cell kXj 0) (And.intro (at_cell kXj 1) (And.intro (at_cell kXj 2) (And.intro (at_cell kAj 0) (And.intro (at_cell kAj 1) (at_cell kAj 2))))))))
  have b : Below wg.heap.size wg wj := bw_call (bw_call (bw_drew (Below.refl _ _)) bi) bj
  clear S0 S1 S2 RA OX OXi kXi kAi kXj kAj hpt ot bi bj
  replace d := bw_call d b
  replace kA := (b.block _ sA).trans kA
  replace sA := Nat.lt_of_lt_of_le sA b.size
  replace r0 := r0.below (b.mono y0)
  replace y0 := Nat.le_trans y0 b.size
  replace ox := ox.below b
  replace kX := (b.block _ sX).trans kX
  replace sX := Nat.lt_of_lt_of_le sX b.size
  clear b
  go_wp2_with fail
  go_ret
  exact ⟨rfl, d⟩

set_option maxRecDepth 100000 in
theorem lifted (os : Os) (started : os.Started) (H : Type) (enc : TypeId × Value → H) :
    ReturnsInHanded {} Tryz.checked os 10 .any (fun w args => (Rows.fnExactReadsSpec.pre enc Tryz.prog Tryz.f10 Rows.fnExactReadsRow.domain false w args ∧ laidMetH Tryz.prog Rows.fnExactReadsRow.laid w) ∧ sizedMet enc Tryz.prog Tryz.f10 (OpenSpec.ofChange Rows.fnExactReadsSpec) false w args) (Rows.fnExactReadsSpec.post enc Tryz.prog Tryz.f10 false true false false) := by
  refine returnsInHanded_of_change_and (C := Tryz.checked) (X := fun w _ => laidMetH Tryz.prog Rows.fnExactReadsRow.laid w) (fun _ _ _ hh h => h.of_heap hh) own started (by kernel_rfl) Tryz.func10
    (ChangeSpec.witness_at (enc := enc) (C := Tryz.checked) (os := os) (X := fun w _ => laidMetH Tryz.prog Rows.fnExactReadsRow.laid w) false (laidWorld os) #[.agg #[.slice none 0 0, .slice none 0 0, .slice none 0 0], .string ByteArray.empty, .int .i64 0] 8 rfl (by kernel_rfl) (by kernel_rfl) (by kernel_rfl) (by kernel_rfl) (by kernel_rfl) (show laidMetH Tryz.prog laidAll _ from laid_ten os _)) ?_
  intro W base args ds gs before hval0 hW _ _ hL _
  have hval : ∀ (j : Nat) t v, Tryz.f10.params[j]? = some t → args[j]? = some v → Value.okWide Tryz.prog W .any base t v := hval0
  have hW' := hW
  obtain ⟨p, q, hA0, hV, rfl, hfz, hnd⟩ := hW
  have hA : DataW.TrodAll enc Tryz.prog W 0 (fun _ => true) true Tryz.f10.params.toList args.toList ds p := hA0
  have hVN : DataW.TrodVars enc Tryz.prog W (fun _ => true) ["loop.example/g00372/impl.errWrongShelf", "loop.example/g00372/impl.errWrongOp", "loop.example/g00372/impl.errNoBook", "loop.example/g00372/impl.errBookThere", "loop.example/g00372/impl.errFenced", "loop.example/g00372/impl.errFixed", "loop.example/g00372/impl.errRange", "loop.example/g00372/impl.errManyBooks", "loop.example/g00372/impl.errWorn", "loop.example/g00372/impl.errNoPage"] gs q := hV
  have hvl := vars_length hVN
  rw [Tryz.params10] at hA hval
  obtain ⟨v0, vs0, d0, ds0, p0, q0, hargs, rfl, rfl, h0, rr0⟩ := trodAll_cons hA
  obtain ⟨v1, vs1, d1, ds1, p1, q1, rfl, rfl, rfl, h1, rr1⟩ := trodAll_cons rr0
  obtain ⟨v2, vs2, d2, ds2, p2, q2, rfl, rfl, rfl, h2, rr2⟩ := trodAll_cons rr1
  obtain ⟨rfl, rfl, rfl⟩ := trodAll_nil rr2
  obtain rfl : args = #[v0, v1, v2] := by cases args; simp_all
  have kk0 := h0
  have lt0 : ∀ x ∈ p0, x.block < W.heap.size := by obtain ⟨fuel, hfuel⟩ := kk0; exact DataW.trod_lt fuel _ _ _ hfuel
  obtain ⟨v0a, v0b, v0c, cs0, ps0, bs0, rfl, w0, z0⟩ := open_shelf (hval 0 72 v0 rfl rfl) h0
  have kk1 := h1
  have lt1 : ∀ x ∈ p1, x.block < W.heap.size := by obtain ⟨fuel, hfuel⟩ := kk1; exact DataW.trod_lt fuel _ _ _ hfuel
  obtain ⟨a1, rfl, w1⟩ := open_str (hval 1 9 v1 rfl rfl) h1
  have kk2 := h2
  have lt2 : ∀ x ∈ p2, x.block < W.heap.size := by obtain ⟨fuel, hfuel⟩ := kk2; exact DataW.trod_lt fuel _ _ _ hfuel
  obtain ⟨a2, rfl, w2⟩ := open_i64 (hval 2 2 v2 rfl rfl) h2
  clear hA0 hval0
  refine (walk v0a v0b v0c cs0 ps0 bs0 a1 a2 W w0 z0 w1 w2 (adOf W) (vars_ten (show laidMetH Tryz.prog laidAll W from hL))).mono fun e W' ⟨he, bel⟩ => ?_
  subst he
  match gs, hvl, hVN with
  | [g1, g2, g3, g4, g5, g6, g7, g8, g9, g10], _, hVN =>
    exact ⟨_, rfl, _, _, _, [], _, q, hW', trodAll_mk1 (shut_bool Tryz.underlying4 _), (trodAll_cons_mk (Below.trod laidOut (by kernel_rfl) (of_decide_eq_true (by kernel_rfl)) kk0 bel lt0) (trodAll_cons_mk (Below.trod laidOut (by kernel_rfl) (of_decide_eq_true (by kernel_rfl)) kk1 bel lt1) (trodAll_cons_mk (Below.trod laidOut (by kernel_rfl) (of_decide_eq_true (by kernel_rfl)) kk2 bel lt2) trodAll_mk0))), Below.trodVars laidOut bel (by kernel_rfl) hVN, bel.frame _, fun h => by cases h⟩

theorem over : Rows.fnExactReadsRow.holds Tryz.pinned (OpenSpec.ofChange Rows.fnExactReadsSpec) :=
  OpenClaim.holds_of_wide 10 Tryz.f10 rfl rfl rfl rfl rfl rfl rfl ⟨rfl, rfl, rfl, rfl, rfl⟩ rfl rfl rfl rfl rfl hfn Tryz.func10 closed hinst hwrap
    (fun os started H enc _ => lifted os started H enc)

theorem proved : Rows.FnExactReadsCardSaid :=
  Claim7.holds_tied_plain_at .later [] [.handle, .sentinel, .sentinel, .sentinel, .sentinel, .sentinel, .sentinel, .sentinel, .sentinel, .sentinel, .sentinel] true (true, "b2287236bee097b051ce9616ae8ae0340ef641078460b544a384993f62e4c8ab") true over (fun _ h => by cases h) byText (fun _ h => by cases h) fnExactReads_row_tie rfl ⟨rfl, rfl⟩ mainIs rfl
    (fun f fn hf hfn' => by
      obtain rfl : f = 10 := (Option.some.inj (hfn.symm.trans hf)).symm
      obtain rfl : fn = Tryz.f10 := (Option.some.inj (Tryz.func10.symm.trans hfn')).symm
      exact ⟨looks, fun j t ht => by
        rw [Tryz.params10] at ht
        have hm : t ∈ [72, 9, 2] := by have h := Array.mem_of_getElem? ht; simpa using h
        simp only [List.mem_cons, List.mem_nil_iff, or_false] at hm
        rcases hm with rfl | rfl | rfl
        · exact stand72
        · exact stand9
        · exact stand2⟩)
    goes
#print axioms proved
end Go.Proofs.YtaekdfknkgmfbaaGreatDoor.fnExactReads
