/-
  The contracts of the draws that make texts: l1DrawBytes, l1DrawName.
-/
import Derived.Test.YtbjkbhchcoabcaaDraw
import Derived.Test.YtbjkbhchcoabcaaShow
import Derived.Test.YtbjkbhchcoabcaaRows1
import Derived.Laws.OwnMore
import Derived.OwnWalk
namespace Go.Proofs.Ytbjkbhchcoabcaa
open Go.RowKit
set_option linter.unusedVariables false

theorem Try.infoU8 : (Try.prog.info? 5).map (fun i => (i.zero, i.size, i.bytes)) = some (some (.int .u8 0), 1, 1) := by kernel_rfl

theorem conv_owned {w : World} {base g cap : Nat} (ns : List Int) (h : w.ownsRow base 5 1 (.slice (some ⟨g, 0, none⟩) ns.length cap) ns.length (ns.map (Value.int .u8))) :
    (convert 22 9 (.slice (some ⟨g, 0, none⟩) ns.length cap)).run Try.prog w = .ok (.string ⟨(ns.map fun n => UInt8.ofNat n.toNat).toArray⟩) w :=
  conv_cells w ⟨g, 0, none⟩ cap ns (fun j v hj => h.cells rfl j _ (by rw [List.getElem?_map, hj]; rfl))

set_option maxRecDepth 100000 in
set_option maxHeartbeats 800000 in
theorem drawBytes_any (c : Nat) (x : Option Addr) (len cap : Nat) (most : Int) (w : World) (h0 : 1 ≤ most) (h1 : most ≤ 1000000) (hc : Cur w c x len cap) :
    Calls Try.prog 58 #[.pointer (some ⟨c, 0, none⟩), .int .i64 most] w fun e w' => ∃ s : ByteArray, e = .returned (.string s) ∧ (s.size : Int) < most ∧ Upto c w w' ∧ Cur w' c x len cap := by
  obtain ⟨i0, hi, hz0, hz1, hz2⟩ := info_parts Try.infoU8
  have hlt := hc.lt
  go_enter Try.func58, Try.ntmps58
  go_wp2_with fail
  refine (below_any c x len cap most _ (by omega) (hc.alloc _)).mono ?_
  rintro e w1 ⟨m0, rfl, hm0, u1, k1⟩
  have own0 : w1.ownsRow w.heap.size 5 1 (.slice (some ⟨w.heap.size, 0, none⟩) 0 0) 0 [] := ownsRow_upto (World.ownsRow_lit w #[] 0 (Nat.le_refl _) (Nat.zero_le _) rfl) u1 hlt
  have u0 : Upto c w w1 := ((Upto.refl c w).alloc _).trans u1
  obtain ⟨m, rfl⟩ := Int.eq_ofNat_of_zero_le hm0.1
  have hm1 : (m : Int) < most := hm0.2.1 (by omega)
  clear u1 hm0
  go_wp2_with fail
  go_loopw [5, 6] (fun v n wr => ∃ (m : Nat) (ns : List Int) (g cp : Nat), n = .int .i64 m ∧ ((ns.length : Int) + m) < most ∧ v = .slice (some ⟨g, 0, none⟩) ns.length cp ∧
      wr.ownsRow w.heap.size 5 1 (.slice (some ⟨g, 0, none⟩) ns.length cp) ns.length (ns.map (Value.int .u8)) ∧ Upto c w wr ∧ Cur wr c x len cap) (fun _ n _ => (intOf n).toNat)
  case atStart => exact ⟨m, [], _, _, rfl, by simpa using hm1, rfl, own0, u0, k1⟩
  case round =>
    obtain ⟨m, ns, g, cp, rfl, hm, rfl, own, u, k⟩ := hrel
    clear own0 u0 k1
    by_cases hpos : (0 : Int) < (m : Int)
    · go_wp2_with fail
      refine (byte_any c x len cap _ k).mono ?_
      rintro e w2 ⟨y, rfl, hy, u2, k2⟩
      have own2 := ownsRow_upto own u2 hlt
      have hsz : w.heap.size ≤ w2.heap.size := Nat.le_trans u.size u2.size
      clear own
      go_wp2_with (at_builtin; refine wpList_append_own _ rfl _ _ 22 rfl w.heap.size 5 i0 (.int .u8 0) 1 1 Try.underlying22 hi hz0 hz1 hz2 rfl (by decide) _ _ _ rfl (own2.alloc _) ⟨w2.heap.size, 0, none⟩ 1 1 [.int .u8 y] rfl rfl ?c1 ?c2 ?c3 ?c4 ?c5 ?_)
      case c1 => exact new_one _ _ _
      case c2 => intro u hu; simp at hu; subst hu; rfl
      case c3 => unfold maxLen; omega
      case c4 => omega
      case c5 => simp; omega
      intro v' w3 hown' hgrow _
      obtain ⟨g', cp', rfl⟩ := owns_form hown'
      have ug : Below w2.heap.size w2 w2 := Below.refl _ _
      have hrow : ∀ q, (Value.slice (some ⟨g, 0, none⟩) ns.length cp).ownBlock = some q → w.heap.size ≤ q := fun q hq => (own2.lt q hq).1
      have u3 : Upto c w w3 := ((u.trans u2).alloc _).grown hgrow (fun q hq => .inl (hrow q hq))
      have k3 : Cur w3 c x len cap := (k2.alloc _).same ((Below.refl _ _).grown hgrow (k2.alloc _).lt (fun q hq => Nat.lt_of_lt_of_le hlt (hrow q hq)))
      clear own2 hgrow hrow ug
      go_wp2_with fail
      go_roundw
      case rel => exact ⟨m - 1, ns ++ [y], g', cp', by go_num, by simp; omega, by simp, by simpa using hown', u3, k3⟩
      case measure => simp [intOf]; omega
    · have hcv := conv_owned ns own
      go_wp2_with fail
      go_ret
      exact ⟨_, rfl, by show ((Array.size _ : Nat) : Int) < most; simp; omega, u, k⟩

theorem pick_cell {w w1 : World} {c : Nat} {cs : Array Value} {t : TypeId} (u : Upto c (w.alloc (.cells cs t)) w1) (hc : c < w.heap.size) (j : Nat) : w1.cell? ⟨w.heap.size, j, none⟩ = cs[j]? := by
  rw [u.cell (p := ⟨w.heap.size, j, none⟩) (by simp [go_sem]) (by simp; omega)]
  exact World.cell?_alloc_mark w cs t (0, 0) j

theorem name_any (c : Nat) (x : Option Addr) (len cap : Nat) (w : World) (hc : Cur w c x len cap) :
    Calls Try.prog 62 #[.pointer (some ⟨c, 0, none⟩)] w fun e w' => ∃ s : ByteArray, e = .returned (.string s) ∧ s.size ≤ 5 ∧ Upto c w w' ∧ Cur w' c x len cap := by
  have hlt := hc.lt
  go_enter Try.func62, Try.ntmps62
  go_wp2_with fail
  refine (below_any c x len cap 7 _ (by omega) (hc.alloc _)).mono ?_
  rintro e w1 ⟨m0, rfl, hm0, u1, k1⟩
  obtain ⟨m, rfl⟩ := Int.eq_ofNat_of_zero_le hm0.1
  have hm1 : (m : Int) < 7 := hm0.2.1 (by omega)
  have u0 : Upto c w w1 := ((Upto.refl c w).alloc _).trans u1
  obtain ⟨s, hs, hsz⟩ : ∃ s : ByteArray, w1.cell? ⟨w.heap.size, m, none⟩ = some (.string s) ∧ s.size ≤ 5 := by
    rw [pick_cell u1 hlt m]
    have hm : m = 0 ∨ m = 1 ∨ m = 2 ∨ m = 3 ∨ m = 4 ∨ m = 5 ∨ m = 6 := by omega
    rcases hm with rfl | rfl | rfl | rfl | rfl | rfl | rfl <;> exact ⟨_, rfl, by decide⟩
  clear u1 hm0
  go_wp2_with fail
  go_ret
  exact ⟨s, rfl, hsz, u0, k1⟩

theorem big_any (x : Option Addr) (len cap : Nat) (w : World) (h : len ≤ maxLen) :
    Calls Try.prog 8 #[.slice x len cap] w fun e w' => e = .returned (.bool (decide (4096 < (len : Int)))) ∧ w' = w := by
  unfold maxLen at h
  go_enter Try.func8, Try.ntmps8
  go_wp2
  go_ret
  exact ⟨rfl, rfl⟩

end Go.Proofs.Ytbjkbhchcoabcaa
