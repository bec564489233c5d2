/-
  The contracts of the draws that make texts: l1DrawBytes, l1DrawName.
-/
import Derived.Test.YtchlkdhnjejgnaaDraw
import Derived.Test.YtchlkdhnjejgnaaShow
import Derived.Test.YtchlkdhnjejgnaaRows1
import Derived.Laws.OwnMore
import Derived.OwnWalk
namespace Go.Proofs.Ytchlkdhnjejgnaa
open Go.RowKit
set_option linter.unusedVariables false
set_option maxRecDepth 100000

theorem Try.infoU8 : (Try.prog.info? 5).map (fun i => (i.zero, i.size, i.bytes)) = some (some (.int .u8 0), 1, 1) := by kernel_rfl

theorem conv_owned {w : World} {base g cap : Nat} (ns : List Int) (h : w.ownsRow base 5 1 (.slice (some ⟨g, 0, none⟩) ns.length cap) ns.length (ns.map (Value.int .u8))) :
    (convert 22 9 (.slice (some ⟨g, 0, none⟩) ns.length cap)).run Try.prog w = .ok (.string ⟨(ns.map fun n => UInt8.ofNat n.toNat).toArray⟩) w :=
  conv_cells w ⟨g, 0, none⟩ cap ns (fun j v hj => h.cells rfl j _ (by rw [List.getElem?_map, hj]; rfl))

theorem pick_cell {w w1 : World} {c : Nat} {cs : Array Value} {t : TypeId} (u : Upto c (w.alloc (.cells cs t)) w1) (hc : c < w.heap.size) (j : Nat) : w1.cell? ⟨w.heap.size, j, none⟩ = cs[j]? := by
  rw [u.cell (p := ⟨w.heap.size, j, none⟩) (by simp [go_sem]) (by simp; omega)]
  exact World.cell?_alloc_mark w cs t (0, 0) j

theorem name_any (c : Nat) (x : Option Addr) (len cap : Nat) (w : World) (hc : Cur w c x len cap) :
    Calls Try.prog 89 #[.pointer (some ⟨c, 0, none⟩)] w fun e w' => ∃ s : ByteArray, e = .returned (.string s) ∧ s.size ≤ 5 ∧ Upto c w w' ∧ Cur w' c x len cap := by
  have hlt := hc.lt
  go_enter Try.func89, Try.ntmps89
  go_wp2_with fail
  refine (below_any c x len cap 7 _ (by omega) (hc.alloc _)).mono ?_
  rintro e w1 ⟨m0, rfl, hm0, u1, k1⟩
  obtain ⟨m, rfl⟩ := Int.eq_ofNat_of_zero_le hm0.1
  have hm1 : (m : Int) < 7 := hm0.2.1 (by omega)
  have u0 : Upto c w w1 := ((Upto.refl c w).alloc _).trans u1
  obtain ⟨s, hs, hsz⟩ : ∃ s : ByteArray, w1.cell? ⟨w.heap.size, m, none⟩ = some (.string s) ∧ s.size ≤ 5 := by
    rw [pick_cell u1 hlt m]
    have hm : m = 0 ∨ m = 1 ∨ m = 2 ∨ m = 3 ∨ m = 4 ∨ m = 5 ∨ m = 6 := by omega
    rcases hm with rfl | rfl | rfl | rfl | rfl | rfl | rfl <;> exact ⟨_, rfl, by decide⟩
  clear u1 hm0
  go_wp2_with fail
  go_ret
  exact ⟨s, rfl, hsz, u0, k1⟩

theorem big_any (x : Option Addr) (len cap : Nat) (w : World) (h : len ≤ maxLen) :
    Calls Try.prog 9 #[.slice x len cap] w fun e w' => e = .returned (.bool (decide (4096 < (len : Int)))) ∧ w' = w := by
  unfold maxLen at h
  go_enter Try.func9, Try.ntmps9
  go_wp2
  go_ret
  exact ⟨rfl, rfl⟩

end Go.Proofs.Ytchlkdhnjejgnaa
