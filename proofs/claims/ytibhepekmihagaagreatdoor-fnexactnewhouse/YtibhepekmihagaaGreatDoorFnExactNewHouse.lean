/-
  The law FnExactNewHouse answers true at every input that the row speaks of, its arguments and the named variables read afterwards as before; the listed variables are tied to the program's text; the walk goes over the callees' contracts.
-/
import Derived.Test.YtibhepekmihagaaGreatDoorRows
import Derived.Test.YtibhepekmihagaaGreatDoorTie
import Derived.Test.YtibhepekmihagaaGreatDoorCards
import Derived.SevenTiedAt
import Derived.JoinedOf
import Derived.OpenVars
import Derived.WalkKit
import Derived.ProofKit
import Derived.OpenShut
import Derived.ChangeOld
import Derived.Below
import Derived.Carry
import Derived.Test.YtibhepekmihagaaGreatDoorM08
import Derived.Test.YtibhepekmihagaaGreatDoorM09
import Derived.Test.YtibhepekmihagaaGreatDoorM20
import Derived.Test.YtibhepekmihagaaGreatDoorM34
import Derived.Test.YtibhepekmihagaaGreatDoorM40
import Derived.Test.YtibhepekmihagaaGreatDoorM42
namespace Go.Proofs.YtibhepekmihagaaGreatDoor.fnExactNewHouse
open Go Go.ChangeShapes Go.WideShapes Go.ChangeAt Go.RowKit
set_option linter.unusedVariables false

theorem own : ownKnob Tryz.prog.godebug = none := by kernel_rfl

theorem laidOut : laidOutB Tryz.prog = true := by kernel_rfl

theorem vars_length {H : Type} {enc : TypeId × Value → H} {P : Program} {w : World} {sp : Nat → Bool} : ∀ {ns : List String} {gs : List (DataW H)} {ps : List MemPlace}, DataW.TrodVars enc P w sp ns gs ps → gs.length = ns.length
  | [], [], _, _ => rfl
  | [], _ :: _, _, h => h.elim
  | _ :: _, [], _, h => h.elim
  | n :: ns, d :: ds, _, h => by
    obtain ⟨_, _, _, _, _, _, _, _, _, _, h', _⟩ := h
    simp [vars_length h']

set_option maxRecDepth 100000 in
set_option maxHeartbeats 8000000 in
theorem walk (a0 : Int) (w : World) (w0 : (Lit.int .i64 a0).wf = true) (ad : Nat → Addr) (hvs : VarsS w ad) (hvb : VarB w (ad 0)) :
    Calls Tryz.prog 3 #[.int .i64 a0] w fun e w' => e = .returned (.bool true) ∧ Below w.heap.size w w' := by
  obtain ⟨⟨pg, st, ok⟩, hn⟩ : ∃ x, newH a0 = x := ⟨_, rfl⟩
  have HN : Hid (newH a0 = (pg, st, ok)) := hn
  have hl := newH_len a0
  rw [hn] at hl
  obtain ⟨h1, h2, h3, h4⟩ := hl
  simp only at h1 h2 h3 h4
  have HL : Hid (st.s.cs.length ≤ 24 ∧ st.s.ps.length ≤ 24 ∧ st.ts.length ≤ 4 ∧ st.rs.length ≤ 4) := ⟨h1, h2, h3, h4⟩
  have hnv : (ok != ok) = false := by cases ok <;> rfl
  obtain ⟨mk, hmk⟩ : ∃ mk : Int, (1 : Int) + st.s.cs.length + st.s.ps.length + st.ts.length + 2 * st.rs.length = mk := ⟨_, rfl⟩
  have HMK : Hid ((1 : Int) + st.s.cs.length + st.s.ps.length + st.ts.length + 2 * st.rs.length = mk) := hmk
  have hm0 : ¬ mk < 0 := by omega
  have hmm : (mk != mk) = false := by simp
  clear hn hmk h1 h2 h3 h4
  go_enter Tryz.func3, Tryz.ntmps3
  go_wp2_with fail
  refine (specNewHouse_nil a0 _ pg st ok HN.out).mono ?_
  rintro e w1 ⟨los, lcs, o1s, c1s, o2s, c2s, o3s, c3s, o4s, c4s, o5s, c5s, rfl, OW, b1⟩
  obtain ⟨W2, hW2, kS, d2, z2⟩ := box1 w1 #[.bool ok, .int .i64 pg, .slice los 0 lcs, .int .i64 0, .slice o1s st.s.cs.length c1s, .slice o2s st.s.ps.length c2s, .slice o3s 0 c3s, .slice o4s st.ts.length c4s, .slice o5s st.rs.length c5s] 33
  have HW2 : Hid (W2 = _) := hW2
  have D2 := bw_call b1 d2
  have rS := (OW.reads.below d2).mono d2.size
  have HVS : Hid _ := hvs
  have HVB : Hid _ := hvb
  clear hW2 OW b1 d2 hvs hvb z2
  go_upto_region 2 with fail
  rw [← HW2.out]
  clear HW2
  go_wp2_with fail
  refine (implNewHouse_nil a0 _ ad _ (HVS.out.below D2) (VarB.below HVB.out D2) pg st ok HN.out).mono ?_
  rintro e w3 ⟨log, lcg, o1g, c1g, o2g, c2g, o3g, c3g, o4g, c4g, o5g, c5g, rfl, OG, apG, b3⟩
  have HAP : Hid _ := apG
  obtain ⟨W4, hW4, kG, d4, z4⟩ := box1 w3 #[.bool ok, .int .i64 pg, .slice log 0 lcg, .int .i64 0, .slice o1g st.s.cs.length c1g, .slice o2g st.s.ps.length c2g, .slice o3g 0 c3g, .slice o4g st.ts.length c4g, .slice o5g st.rs.length c5g] 33
  have HW4 : Hid (W4 = _) := hW4
  have B24 := bw_call b3 d4
  have D4 := bw_call D2 B24
  have kS4 := (B24.block _ (heap_lt kS)).trans kS
  have rS4 := rS.below B24
  have OG4 := OG.below d4
  have l4 : W2.heap.size ≤ W4.heap.size := B24.size
  clear hW4 OG apG b3 d4 z4 kS rS B24
  go_upto_region 3 with fail
  rw [← HW4.out]
  clear HW4
  have p0 := at_cell kG 0
  have p1 := at_cell kG 1
  have p2 := at_cell kG 2
  have p3 := at_cell kG 3
  have p4 := at_cell kG 4
  have p5 := at_cell kG 5
  have p6 := at_cell kG 6
  have p7 := at_cell kG 7
  have p8 := at_cell kG 8
  have q0 := at_cell kS4 0
  have q1 := at_cell kS4 1
  have q2 := at_cell kS4 2
  have q3 := at_cell kS4 3
  have q4 := at_cell kS4 4
  have q5 := at_cell kS4 5
  have q6 := at_cell kS4 6
  have q7 := at_cell kS4 7
  have q8 := at_cell kS4 8
  go_wp2_with fail
  clear p0 p1 p2 p3 p4 p5 p6 p7 p8 q0 q1 q2 q3 q4 q5 q6 q7 q8
  refine (eqHouse0_same ok pg st log lcg o1g c1g o2g c2g o3g c3g o4g c4g o5g c5g los lcs o1s c1s o2s c2s o3s c3s o4s c4s o5s c5s _ OG4.reads (rS4.mono l4)).mono ?_
  rintro e w5 ⟨rfl, b5⟩
  have D5 := bw_call D4 b5
  have kS5 := (b5.block _ (heap_lt kS4)).trans kS4
  have kG5 := (b5.block _ (heap_lt kG)).trans kG
  have rS5 := rS4.below (b5.mono l4)
  have OG5 := OG4.below b5
  have l5 : W2.heap.size ≤ w5.heap.size := Nat.le_trans l4 b5.size
  clear kS4 kG rS4 OG4 b5 D4
  have p0 := at_cell kG5 0
  have p1 := at_cell kG5 1
  have p2 := at_cell kG5 2
  have p3 := at_cell kG5 3
  have p4 := at_cell kG5 4
  have p5 := at_cell kG5 5
  have p6 := at_cell kG5 6
  have p7 := at_cell kG5 7
  have p8 := at_cell kG5 8
  go_wp2_with fail
  clear p0 p1 p2 p3 p4 p5 p6 p7 p8
  have hmark := markHouse0_any ok pg st log lcg o1g c1g o2g c2g o3g c3g o4g c4g o5g c5g W2.heap.size 1 w5 (by omega) (by have := HL.out; omega) (by have := HL.out; omega) (by have := HL.out; omega) (by have := HL.out; omega) (by have := HL.out; omega) OG5 HAP.out l5
  rw [HMK.out] at hmark
  refine hmark.mono ?_
  clear hmark
  rintro e w6 ⟨rfl, OM, on⟩
  have kG6 := (on.block _ (heap_lt kG5) (OG5.not_box kG5)).trans kG5
  have kS6 := (on.block _ (heap_lt kS5) (OG5.not_box kS5)).trans kS5
  have B56 : Below W2.heap.size w5 w6 := on.toBelow l5 (fun i h => (OG5.span i h).1)
  have rS6 := rS5.below B56
  have D6 := D5.trans (B56.mono D2.size)
  have l6 : W2.heap.size ≤ w6.heap.size := Nat.le_trans l5 on.size
  clear kG5 kS5 OG5 on rS5 D5 B56
  have p0 := at_cell kG6 0
  have p1 := at_cell kG6 1
  have p2 := at_cell kG6 2
  have p3 := at_cell kG6 3
  have p4 := at_cell kG6 4
  have p5 := at_cell kG6 5
  have p6 := at_cell kG6 6
  have p7 := at_cell kG6 7
  have p8 := at_cell kG6 8
  go_wp2_with fail
  clear p0 p1 p2 p3 p4 p5 p6 p7 p8
  have hheld := heldHouse0_any ok pg st log lcg o1g c1g o2g c2g o3g c3g o4g c4g o5g c5g W2.heap.size 1 w6 (by omega) (by have := HL.out; omega) (by have := HL.out; omega) (by have := HL.out; omega) (by have := HL.out; omega) (by have := HL.out; omega) OM
  rw [HMK.out] at hheld
  refine hheld.mono ?_
  clear hheld
  rintro e w7 ⟨rfl, b7⟩
  have D7 := bw_call D6 b7
  have kG7 := (b7.block _ (heap_lt kG6)).trans kG6
  have kS7 := (b7.block _ (heap_lt kS6)).trans kS6
  have rS7 := rS6.below (b7.mono l6)
  have OM7 := OM.below b7
  have l7 : W2.heap.size ≤ w7.heap.size := Nat.le_trans l6 b7.size
  clear kG6 kS6 rS6 OM b7 D6
  go_wp2_with fail
  refine (implNewHouse_nil a0 _ ad _ (HVS.out.below D7) (VarB.below HVB.out D7) pg st ok HN.out).mono ?_
  rintro e w8 ⟨loh, lch, o1h, c1h, o2h, c2h, o3h, c3h, o4h, c4h, o5h, c5h, rfl, OH, apH, b8⟩
  obtain ⟨W9, hW9, kH, d9, z9⟩ := box1 w8 #[.bool ok, .int .i64 pg, .slice loh 0 lch, .int .i64 0, .slice o1h st.s.cs.length c1h, .slice o2h st.s.ps.length c2h, .slice o3h 0 c3h, .slice o4h st.ts.length c4h, .slice o5h st.rs.length c5h] 33
  have HW9 : Hid (W9 = _) := hW9
  have B79 := bw_call b8 d9
  have D9 := bw_call D7 B79
  have kS9 := (B79.block _ (heap_lt kS7)).trans kS7
  have kG9 := (B79.block _ (heap_lt kG7)).trans kG7
  have rS9 := rS7.below (B79.mono l7)
  have OM9 := OM7.below B79
  have OH9 := OH.below d9
  have l9 : W2.heap.size ≤ W9.heap.size := Nat.le_trans l7 B79.size
  clear hW9 OH apH b8 d9 z9 kS7 kG7 rS7 OM7 B79 D7
  go_upto_region 14 with fail
  rw [← HW9.out]
  clear HW9
  have p0 := at_cell kH 0
  have p1 := at_cell kH 1
  have p2 := at_cell kH 2
  have p3 := at_cell kH 3
  have p4 := at_cell kH 4
  have p5 := at_cell kH 5
  have p6 := at_cell kH 6
  have p7 := at_cell kH 7
  have p8 := at_cell kH 8
  have q0 := at_cell kS9 0
  have q1 := at_cell kS9 1
  have q2 := at_cell kS9 2
  have q3 := at_cell kS9 3
  have q4 := at_cell kS9 4
  have q5 := at_cell kS9 5
  have q6 := at_cell kS9 6
  have q7 := at_cell kS9 7
  have q8 := at_cell kS9 8
  go_wp2_with fail
  clear p0 p1 p2 p3 p4 p5 p6 p7 p8 q0 q1 q2 q3 q4 q5 q6 q7 q8
  refine (eqHouse0_same ok pg st loh lch o1h c1h o2h c2h o3h c3h o4h c4h o5h c5h los lcs o1s c1s o2s c2s o3s c3s o4s c4s o5s c5s _ OH9.reads (rS9.mono l9)).mono ?_
  rintro e w10 ⟨rfl, b10⟩
  have D10 := bw_call D9 b10
  have kG10 := (b10.block _ (heap_lt kG9)).trans kG9
  have OM10 := OM9.below b10
  clear kS9 kG9 kH rS9 OM9 OH9 b10 D9
  have p0 := at_cell kG10 0
  have p1 := at_cell kG10 1
  have p2 := at_cell kG10 2
  have p3 := at_cell kG10 3
  have p4 := at_cell kG10 4
  have p5 := at_cell kG10 5
  have p6 := at_cell kG10 6
  have p7 := at_cell kG10 7
  have p8 := at_cell kG10 8
  go_wp2_with fail
  clear p0 p1 p2 p3 p4 p5 p6 p7 p8
  have hheld := heldHouse0_any ok pg st log lcg o1g c1g o2g c2g o3g c3g o4g c4g o5g c5g W2.heap.size 1 w10 (by omega) (by have := HL.out; omega) (by have := HL.out; omega) (by have := HL.out; omega) (by have := HL.out; omega) (by have := HL.out; omega) OM10
  rw [HMK.out] at hheld
  refine hheld.mono ?_
  clear hheld
  rintro e w11 ⟨rfl, b11⟩
  have D11 := bw_call D10 b11
  clear kG10 OM10 b11 D10
  go_wp2_with fail
  go_ret
  exact ⟨rfl, D11⟩

set_option maxRecDepth 100000 in
theorem lifted (os : Os) (started : os.Started) (H : Type) (enc : TypeId × Value → H) :
    ReturnsInHanded {} Tryz.checked os 3 .any (fun w args => (Rows.fnExactNewHouseSpec.pre enc Tryz.prog Tryz.f3 Rows.fnExactNewHouseRow.domain false w args ∧ laidMetH Tryz.prog Rows.fnExactNewHouseRow.laid w) ∧ sizedMet enc Tryz.prog Tryz.f3 (OpenSpec.ofChange Rows.fnExactNewHouseSpec) false w args) (Rows.fnExactNewHouseSpec.post enc Tryz.prog Tryz.f3 false true false false) := by
  refine returnsInHanded_of_change_and (C := Tryz.checked) (X := fun w _ => laidMetH Tryz.prog Rows.fnExactNewHouseRow.laid w) (fun _ _ _ hh h => h.of_heap hh) own started (by kernel_rfl) Tryz.func3
    (ChangeSpec.witness_at (enc := enc) (C := Tryz.checked) (os := os) (X := fun w _ => laidMetH Tryz.prog Rows.fnExactNewHouseRow.laid w) false (laidWorld os) #[.int .i64 0] 8 rfl (by kernel_rfl) (by kernel_rfl) (by kernel_rfl) (by kernel_rfl) (by kernel_rfl) (show laidMetH Tryz.prog laidAll _ from laid_ten os _)) ?_
  intro W base args ds gs before hval0 hW _ _ hL _
  have hval : ∀ (j : Nat) t v, Tryz.f3.params[j]? = some t → args[j]? = some v → Value.okWide Tryz.prog W .any base t v := hval0
  have hW' := hW
  obtain ⟨p, q, hA0, hV, rfl, hfz, hnd⟩ := hW
  have hA : DataW.TrodAll enc Tryz.prog W 0 (fun _ => true) true Tryz.f3.params.toList args.toList ds p := hA0
  have hVN : DataW.TrodVars enc Tryz.prog W (fun _ => true) ["loop.example/g00372/impl.errCannotBe", "loop.example/g00372/impl.errWrongShelf", "loop.example/g00372/impl.errWrongOp", "loop.example/g00372/impl.errNoBook", "loop.example/g00372/impl.errBookThere", "loop.example/g00372/impl.errFenced", "loop.example/g00372/impl.errFixed", "loop.example/g00372/impl.errRange", "loop.example/g00372/impl.errManyBooks", "loop.example/g00372/impl.errWorn", "loop.example/g00372/impl.errNoPage"] gs q := hV
  have hvl := vars_length hVN
  rw [Tryz.params3] at hA hval
  obtain ⟨v0, vs0, d0, ds0, p0, q0, hargs, rfl, rfl, h0, rr0⟩ := trodAll_cons hA
  obtain ⟨rfl, rfl, rfl⟩ := trodAll_nil rr0
  obtain rfl : args = #[v0] := by cases args; simp_all
  have kk0 := h0
  have lt0 : ∀ x ∈ p0, x.block < W.heap.size := by obtain ⟨fuel, hfuel⟩ := kk0; exact DataW.trod_lt fuel _ _ _ hfuel
  obtain ⟨a0, rfl, w0⟩ := open_i64 (hval 0 2 v0 rfl rfl) h0
  clear hA0 hval0
  refine (walk a0 W w0 (adOf W) (vars_ten (show laidMetH Tryz.prog laidAll W from hL)) (varb_ten (show laidMetH Tryz.prog laidAll W from hL))).mono fun e W' ⟨he, bel⟩ => ?_
  subst he
  match gs, hvl, hVN with
  | [g1, g2, g3, g4, g5, g6, g7, g8, g9, g10, g11], _, hVN =>
    exact ⟨_, rfl, _, _, _, [], _, q, hW', trodAll_mk1 (shut_bool Tryz.underlying4 _), (trodAll_cons_mk (Below.trod laidOut (by kernel_rfl) (of_decide_eq_true (by kernel_rfl)) kk0 bel lt0) trodAll_mk0), Below.trodVars laidOut bel (by kernel_rfl) hVN, bel.frame _, fun h => by cases h⟩

theorem over : Rows.fnExactNewHouseRow.holds Tryz.pinned (OpenSpec.ofChange Rows.fnExactNewHouseSpec) :=
  OpenClaim.holds_of_wide 3 Tryz.f3 rfl rfl rfl rfl rfl rfl rfl ⟨rfl, rfl, rfl, rfl, rfl⟩ rfl rfl rfl rfl rfl hfn Tryz.func3 closed hinst hwrap
    (fun os started H enc _ => lifted os started H enc)

theorem proved : Rows.FnExactNewHouseCardSaid :=
  Claim7.holds_tied_plain_at .later [] [.handle, .sentinel, .sentinel, .sentinel, .sentinel, .sentinel, .sentinel, .sentinel, .sentinel, .sentinel, .sentinel, .sentinel] true (true, "0982d5ae380c2dea0abb4d2040c985eedbc7985d22bb2a5e3b3720686eb6e62d") true over (fun _ h => by cases h) byText (fun _ h => by cases h) fnExactNewHouse_row_tie rfl ⟨rfl, rfl⟩ mainIs rfl
    (fun f fn hf hfn' => by
      obtain rfl : f = 3 := (Option.some.inj (hfn.symm.trans hf)).symm
      obtain rfl : fn = Tryz.f3 := (Option.some.inj (Tryz.func3.symm.trans hfn')).symm
      exact ⟨looks, fun j t ht => by
        rw [Tryz.params3] at ht
        have hm : t ∈ [2] := by have h := Array.mem_of_getElem? ht; simpa using h
        simp only [List.mem_cons, List.mem_nil_iff, or_false] at hm
        rcases hm with rfl
        · exact stand2⟩)
    goes
#print axioms proved
end Go.Proofs.YtibhepekmihagaaGreatDoor.fnExactNewHouse
