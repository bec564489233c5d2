/-
  Contracts and plain laws, one chapter behind the other.
-/
import Derived.BigQuiet
import Derived.Test.YtibhepekmihagaaGreatDoorM02
import Derived.Test.YtibhepekmihagaaGreatDoorM03
import Derived.Test.YtibhepekmihagaaGreatDoorM05
import Derived.Test.YtibhepekmihagaaGreatDoorM14
import Derived.Test.YtibhepekmihagaaGreatDoorM23
namespace Go.Proofs.YtibhepekmihagaaGreatDoor
open Go.RowKit

set_option linter.unusedVariables false

set_option maxRecDepth 100000


theorem cl_segA {w : World} {base g n cap : Nat} {xs : List Cl} (h : w.ownsRow base 152 8 (.slice (some ⟨g, 0, none⟩) n cap) xs.length (xs.flatMap clC)) (i : Nat) (hi : i < xs.length) (x : Cl) (hx : xs[i]? = some x) (a0 : Int) (a1 : Bool) (a2 : Int) :
    (((w.setCell ⟨g, i * 8, none⟩ (.int .i64 a0)).setCell ⟨g, i * 8 + 1, none⟩ (.bool a1)).setCell ⟨g, i * 8 + 2, none⟩ (.int .i64 a2)).ownsRow base 152 8 (.slice (some ⟨g, 0, none⟩) n cap) (xs.set i ⟨a0, a1, ⟨a2, x.o.nm, x.o.ot, x.o.at_, x.o.va, x.o.ep⟩⟩).length ((xs.set i ⟨a0, a1, ⟨a2, x.o.nm, x.o.ot, x.o.at_, x.o.va, x.o.ep⟩⟩).flatMap clC) := by
  have h0 := own_put clC_len h i 0 x ⟨a0, x.wt, ⟨x.o.k, x.o.nm, x.o.ot, x.o.at_, x.o.va, x.o.ep⟩⟩ (.int .i64 a0) hx (by omega) rfl
  have h1 := own_put clC_len h0 i 1 ⟨a0, x.wt, ⟨x.o.k, x.o.nm, x.o.ot, x.o.at_, x.o.va, x.o.ep⟩⟩ ⟨a0, a1, ⟨x.o.k, x.o.nm, x.o.ot, x.o.at_, x.o.va, x.o.ep⟩⟩ (.bool a1) (by simp [hi]) (by omega) rfl
  have h2 := own_put clC_len h1 i 2 ⟨a0, a1, ⟨x.o.k, x.o.nm, x.o.ot, x.o.at_, x.o.va, x.o.ep⟩⟩ ⟨a0, a1, ⟨a2, x.o.nm, x.o.ot, x.o.at_, x.o.va, x.o.ep⟩⟩ (.int .i64 a2) (by simp [hi]) (by omega) rfl
  rw [List.set_set, List.set_set] at h2
  exact h2

theorem cl_segB {w : World} {base g n cap : Nat} {xs : List Cl} (h : w.ownsRow base 152 8 (.slice (some ⟨g, 0, none⟩) n cap) xs.length (xs.flatMap clC)) (i : Nat) (hi : i < xs.length) (x : Cl) (hx : xs[i]? = some x) (a3 : ByteArray) :
    (w.setCell ⟨g, i * 8 + 3, none⟩ (.string a3)).ownsRow base 152 8 (.slice (some ⟨g, 0, none⟩) n cap) (xs.set i ⟨x.tg, x.wt, ⟨x.o.k, a3, x.o.ot, x.o.at_, x.o.va, x.o.ep⟩⟩).length ((xs.set i ⟨x.tg, x.wt, ⟨x.o.k, a3, x.o.ot, x.o.at_, x.o.va, x.o.ep⟩⟩).flatMap clC) := by
  have h3 := own_put clC_len h i 3 x ⟨x.tg, x.wt, ⟨x.o.k, a3, x.o.ot, x.o.at_, x.o.va, x.o.ep⟩⟩ (.string a3) hx (by omega) rfl
  exact h3

theorem cl_segC {w : World} {base g n cap : Nat} {xs : List Cl} (h : w.ownsRow base 152 8 (.slice (some ⟨g, 0, none⟩) n cap) xs.length (xs.flatMap clC)) (i : Nat) (hi : i < xs.length) (x : Cl) (hx : xs[i]? = some x) (a4 : ByteArray) (a5 : Int) (a6 : Int) (a7 : Int) :
    ((((w.setCell ⟨g, i * 8 + 4, none⟩ (.string a4)).setCell ⟨g, i * 8 + 5, none⟩ (.int .i64 a5)).setCell ⟨g, i * 8 + 6, none⟩ (.int .i64 a6)).setCell ⟨g, i * 8 + 7, none⟩ (.int .i64 a7)).ownsRow base 152 8 (.slice (some ⟨g, 0, none⟩) n cap) (xs.set i ⟨x.tg, x.wt, ⟨x.o.k, x.o.nm, a4, a5, a6, a7⟩⟩).length ((xs.set i ⟨x.tg, x.wt, ⟨x.o.k, x.o.nm, a4, a5, a6, a7⟩⟩).flatMap clC) := by
  have h4 := own_put clC_len h i 4 x ⟨x.tg, x.wt, ⟨x.o.k, x.o.nm, a4, x.o.at_, x.o.va, x.o.ep⟩⟩ (.string a4) hx (by omega) rfl
  have h5 := own_put clC_len h4 i 5 ⟨x.tg, x.wt, ⟨x.o.k, x.o.nm, a4, x.o.at_, x.o.va, x.o.ep⟩⟩ ⟨x.tg, x.wt, ⟨x.o.k, x.o.nm, a4, a5, x.o.va, x.o.ep⟩⟩ (.int .i64 a5) (by simp [hi]) (by omega) rfl
  have h6 := own_put clC_len h5 i 6 ⟨x.tg, x.wt, ⟨x.o.k, x.o.nm, a4, a5, x.o.va, x.o.ep⟩⟩ ⟨x.tg, x.wt, ⟨x.o.k, x.o.nm, a4, a5, a6, x.o.ep⟩⟩ (.int .i64 a6) (by simp [hi]) (by omega) rfl
  have h7 := own_put clC_len h6 i 7 ⟨x.tg, x.wt, ⟨x.o.k, x.o.nm, a4, a5, a6, x.o.ep⟩⟩ ⟨x.tg, x.wt, ⟨x.o.k, x.o.nm, a4, a5, a6, a7⟩⟩ (.int .i64 a7) (by simp [hi]) (by omega) rfl
  rw [List.set_set, List.set_set, List.set_set] at h7
  exact h7

/-- A client that bears the numbers from K on. -/
def markC (K : Int) : Cl := ⟨(K), ((K + 1) % 3 == 0), ⟨(K + 1 + 1), (markS (K + 1 + 1 + 1)), (markS (K + 1 + 1 + 1 + 1)), (K + 1 + 1 + 1 + 1 + 1), (K + 1 + 1 + 1 + 1 + 1 + 1), (K + 1 + 1 + 1 + 1 + 1 + 1 + 1)⟩⟩

def marksC (k : Int) (n : Nat) : List Cl := (List.range n).map fun i : Nat => markC (k + 8 * (i : Int))

theorem marksC_length (k : Int) (n : Nat) : (marksC k n).length = n := by simp [marksC]

theorem marksC_get (k : Int) (n j : Nat) (h : j < n) : (marksC k n)[j]? = some (markC (k + 8 * (j : Int))) := by simp [marksC, h]

theorem marksC_set (k : Int) (xs : List Cl) (j : Nat) (h : j < xs.length) : (marksC k j ++ xs.drop j).set j (markC (k + 8 * (j : Int))) = marksC k (j + 1) ++ xs.drop (j + 1) := by
  have hl : (marksC k j).length = j := marksC_length k j
  have hs : marksC k (j + 1) = marksC k j ++ [markC (k + 8 * (j : Int))] := by simp [marksC, List.range_succ]
  rw [List.set_append_right _ _ (by omega), hl, Nat.sub_self, List.drop_eq_getElem_cons h, List.set_cons_zero, hs]
  exact (List.append_assoc _ [_] _).symm

set_option maxHeartbeats 3200000 in
theorem markedC_any (g cap n base : Nat) (k : Int) (xs : List Cl) (w : World) (hk : 0 ≤ k) (hk2 : k ≤ 1073741824) (hx : xs.length = n) (hn : n ≤ 1048576) (own : w.ownsRow base 152 8 (.slice (some ⟨g, 0, none⟩) n cap) xs.length (xs.flatMap clC)) :
    Calls Tryz.prog 77 #[.slice (some ⟨g, 0, none⟩) n cap, .int .i64 k] w fun e w' => e = .returned (.int .i64 (k + 8 * n)) ∧ w'.ownsRow base 152 8 (.slice (some ⟨g, 0, none⟩) n cap) (marksC k n).length ((marksC k n).flatMap clC) ∧ Only (fun i => i = g) w w' := by
  have HX : Hid (xs.length = n) := hx
  have hx1 : n ≤ xs.length := by omega
  clear hx
  go_enter Tryz.func77, Tryz.ntmps77
  go_wp2_with fail
  go_loopw [1, 5] (fun q i wr => ∃ (j : Nat) (K : Int), j ≤ n ∧ i = .int .i64 j ∧ q = .int .i64 K ∧ K = k + 8 * j ∧ wr.ownsRow base 152 8 (.slice (some ⟨g, 0, none⟩) n cap) (marksC k j ++ xs.drop j).length ((marksC k j ++ xs.drop j).flatMap clC) ∧ Only (fun i => i = g) w wr) (fun _ i _ => n - (intOf i).toNat)
  case atStart => exact ⟨0, k, Nat.zero_le _, rfl, rfl, by simp, by simpa [marksC] using own, Only.refl _ _⟩
  case round =>
    obtain ⟨j, K, hj, rfl, rfl, hK, ow, on⟩ := hrel
    have HK : Hid (K = k + 8 * j) := hK
    clear own
    by_cases hlt : j < n
    · have hK0 : 0 ≤ K := by omega
      have hK1 : K ≤ 10737418240 := by omega
      have hjl : j < (marksC k j ++ xs.drop j).length := by rw [List.length_append, marksC_length, List.length_drop]; omega
      have HMS : Hid _ := marksC_set k xs j (by omega)
      obtain ⟨ys, hys⟩ : ∃ ys, marksC k j ++ xs.drop j = ys := ⟨_, rfl⟩
      rw [hys] at ow hjl
      rw [hys] at HMS
      obtain ⟨⟨t0, t1, t2, -⟩, u0, u1, u2, -⟩ := own_eight ow j hjl
      have HX0 : Hid (ys[j]? = some ys[j]) := List.getElem?_eq_getElem hjl
      generalize ys[j] = y at t0 t1 t2 HX0
      have HO : Hid _ := ow
      have HON : Hid _ := on
      clear hK ow on hys hx1
      go_wp2_with fail
      refine (markText_any _ _ ?hk).mono ?_
      case hk => omega
      rintro e w5 ⟨rfl, b5⟩
      have owA := cl_segA HO.out j hjl y HX0.out K ((K + 1) % 3 == 0) (K + 1 + 1)
      have ow2 := owns_below owA b5
      have on2 := ((((HON.out.setCell ⟨g, j * 8, none⟩ rfl _).setCell ⟨g, j * 8 + 1, none⟩ rfl _).setCell ⟨g, j * 8 + 2, none⟩ rfl _)).below b5
      have hjl2 : j < (ys.set j (⟨(K), ((K + 1) % 3 == 0), ⟨(K + 1 + 1), y.o.nm, y.o.ot, y.o.at_, y.o.va, y.o.ep⟩⟩ : Cl)).length := by rw [List.length_set]; exact hjl
      have HX2 : Hid ((ys.set j (⟨(K), ((K + 1) % 3 == 0), ⟨(K + 1 + 1), y.o.nm, y.o.ot, y.o.at_, y.o.va, y.o.ep⟩⟩ : Cl))[j]? = some (⟨(K), ((K + 1) % 3 == 0), ⟨(K + 1 + 1), y.o.nm, y.o.ot, y.o.at_, y.o.va, y.o.ep⟩⟩ : Cl)) := by simp [Hid, hjl]
      obtain ⟨⟨-, -, -, t3, -⟩, -, -, -, u3, -⟩ := own_eight ow2 j hjl2
      generalize hy2 : ys.set j (⟨(K), ((K + 1) % 3 == 0), ⟨(K + 1 + 1), y.o.nm, y.o.ot, y.o.at_, y.o.va, y.o.ep⟩⟩ : Cl) = y2 at *
      have HY2 : Hid (ys.set j (⟨(K), ((K + 1) % 3 == 0), ⟨(K + 1 + 1), y.o.nm, y.o.ot, y.o.at_, y.o.va, y.o.ep⟩⟩ : Cl) = y2) := hy2
      generalize y2[j] = yy at t3
      have HO2 : Hid _ := ow2
      have HON2 : Hid _ := on2
      clear t0 t1 t2 u0 u1 u2 owA ow2 on2 b5 hy2 HO HON
      go_wp2_with fail
      refine (markText_any _ _ ?hk).mono ?_
      case hk => omega
      rintro e w6 ⟨rfl, b6⟩
      have owB := cl_segB HO2.out j hjl2 _ HX2.out (markS (K + 1 + 1 + 1))
      have ow4 := owns_below owB b6
      have on4 := (HON2.out.setCell ⟨g, j * 8 + 3, none⟩ rfl _).below b6
      have hjl3 : j < (y2.set j (⟨(K), ((K + 1) % 3 == 0), ⟨(K + 1 + 1), (markS (K + 1 + 1 + 1)), y.o.ot, y.o.at_, y.o.va, y.o.ep⟩⟩ : Cl)).length := by rw [List.length_set]; exact hjl2
      have HX3 : Hid ((y2.set j (⟨(K), ((K + 1) % 3 == 0), ⟨(K + 1 + 1), (markS (K + 1 + 1 + 1)), y.o.ot, y.o.at_, y.o.va, y.o.ep⟩⟩ : Cl))[j]? = some (⟨(K), ((K + 1) % 3 == 0), ⟨(K + 1 + 1), (markS (K + 1 + 1 + 1)), y.o.ot, y.o.at_, y.o.va, y.o.ep⟩⟩ : Cl)) := by simp [Hid, hjl2]
      obtain ⟨⟨-, -, -, -, t4, t5, t6, t7⟩, -, -, -, -, u4, u5, u6, u7⟩ := own_eight ow4 j hjl3
      generalize hy3 : y2.set j (⟨(K), ((K + 1) % 3 == 0), ⟨(K + 1 + 1), (markS (K + 1 + 1 + 1)), y.o.ot, y.o.at_, y.o.va, y.o.ep⟩⟩ : Cl) = y3 at *
      have HY3 : Hid (y2.set j (⟨(K), ((K + 1) % 3 == 0), ⟨(K + 1 + 1), (markS (K + 1 + 1 + 1)), y.o.ot, y.o.at_, y.o.va, y.o.ep⟩⟩ : Cl) = y3) := hy3
      generalize y3[j] = yz at t4 t5 t6 t7
      have HO4 : Hid _ := ow4
      have HON4 : Hid _ := on4
      clear t3 u3 owB ow4 on4 b6 hy3 HO2 HON2
      go_wp2_with fail
      go_roundw
      case rel =>
        have owC := cl_segC HO4.out j hjl3 _ HX3.out (markS (K + 1 + 1 + 1 + 1)) (K + 1 + 1 + 1 + 1 + 1) (K + 1 + 1 + 1 + 1 + 1 + 1) (K + 1 + 1 + 1 + 1 + 1 + 1 + 1)
        have hfin : y3.set j (markC K) = marksC k (j + 1) ++ xs.drop (j + 1) := by
          rw [← HY3.out, ← HY2.out, List.set_set, List.set_set, HK.out]
          exact HMS.out
        have owD : _ := owC
        rw [show (⟨(K), ((K + 1) % 3 == 0), ⟨(K + 1 + 1), (markS (K + 1 + 1 + 1)), (markS (K + 1 + 1 + 1 + 1)), (K + 1 + 1 + 1 + 1 + 1), (K + 1 + 1 + 1 + 1 + 1 + 1), (K + 1 + 1 + 1 + 1 + 1 + 1 + 1)⟩⟩ : Cl) = markC K from rfl, hfin] at owD
        exact ⟨j + 1, _, by omega, by go_num, rfl, by have := HK.out; omega, owD, ((((HON4.out.setCell ⟨g, j * 8 + 4, none⟩ rfl _).setCell ⟨g, j * 8 + 5, none⟩ rfl _).setCell ⟨g, j * 8 + 6, none⟩ rfl _).setCell ⟨g, j * 8 + 7, none⟩ rfl _)⟩
      case measure => simp [intOf]; omega
    · obtain rfl : j = n := by omega
      have hd : marksC k j ++ xs.drop j = marksC k j := by rw [List.drop_of_length_le (by have := HX.out; omega), List.append_nil]
      rw [hd] at ow
      have HO : Hid _ := And.intro ow on
      clear hK ow on hd hx1
      go_wp2_with fail
      go_ret
      exact ⟨ret_int HK.out, HO.out.1, HO.out.2⟩

/-- A row of clients of one's own, marked; whatever lies in another block stays. -/
theorem markClients_any (v : Value) (base : Nat) (k : Int) (xs : List Cl) (w : World) (hk : 0 ≤ k) (hk2 : k ≤ 1073741824) (hn : xs.length ≤ 1048576) (own : w.ownsRow base 152 8 v xs.length (xs.flatMap clC)) :
    Calls Tryz.prog 77 #[v, .int .i64 k] w fun e w' => e = .returned (.int .i64 (k + 8 * xs.length)) ∧ w'.ownsRow base 152 8 v (marksC k xs.length).length ((marksC k xs.length).flatMap clC) ∧ Only (fun i => v.ownBlock = some i) w w' := by
  rcases own.2 with ⟨rfl, h0⟩ | ⟨g, cap, cur, rfl, hg, _⟩
  · obtain rfl : xs = [] := List.length_eq_zero_iff.1 h0
    clear own
    go_enter Tryz.func77, Tryz.ntmps77
    go_wp2
    refine wp_loop_rounds 1 ?_
    rw [rounds_succ]
    go_wp2
    go_ret
    exact ⟨ret_int (by simp), World.ownsRow_nil _ _ _ _, Only.refl _ _⟩
  · refine (markedC_any g cap xs.length base k xs w hk hk2 rfl hn own).mono ?_
    rintro e w' ⟨he, ho, h3⟩
    exact ⟨he, ho, h3.mono (fun i h => by rw [h]; rfl)⟩

set_option maxHeartbeats 3200000 in
theorem heldClients_any (v : Value) (n : Nat) (k : Int) (w : World) (hk : 0 ≤ k) (hk2 : k ≤ 1073741824) (hn : n ≤ 1048576) (hr : ReadsR 8 clC w.heap.size w v (marksC k n)) :
    Calls Tryz.prog 82 #[v, .int .i64 k] w fun e w' => e = .returned (.int .i64 (k + 8 * n)) ∧ Below w.heap.size w w' := by
  obtain ⟨o, cap, rfl, hm, hc, -⟩ := hr
  rw [marksC_length] at hm ⊢
  have HC : Hid _ := cl_cells hc
  clear hc hm
  go_enter Tryz.func82, Tryz.ntmps82
  go_wp2_with fail
  go_loopw [1, 5] (fun q i wr => ∃ (j : Nat) (K : Int), j ≤ n ∧ i = .int .i64 j ∧ q = .int .i64 K ∧ K = k + 8 * j ∧ Below w.heap.size w wr) (fun _ i _ => n - (intOf i).toNat)
  case atStart => exact ⟨0, k, Nat.zero_le _, rfl, rfl, by simp, Below.refl _ _⟩
  case round =>
    obtain ⟨j, K, hj, rfl, rfl, hK, hb⟩ := hrel
    have HK : Hid (K = k + 8 * j) := hK
    by_cases hlt : j < n
    · have hK0 : 0 ≤ K := by omega
      have hK1 : K ≤ 10737418240 := by omega
      have hjl : j < (marksC k n).length := by rw [marksC_length]; exact hlt
      obtain ⟨g, off, rfl, hg, a0, a1, a2, a3, a4, a5, a6, a7⟩ := HC.out j hjl
      have hm := marksC_get k n j hlt
      rw [List.getElem?_eq_getElem hjl] at hm
      have hm2 : (marksC k n)[j] = markC K := (Option.some.inj hm).trans (by rw [HK.out])
      rw [hm2] at a0 a1 a2 a3 a4 a5 a6 a7
      simp only [markC] at a0 a1 a2 a3 a4 a5 a6 a7
      replace a0 := (hb.cell (p := ⟨g, off + j * 8, none⟩) hg).trans a0
      replace a1 := (hb.cell (p := ⟨g, off + j * 8 + 1, none⟩) hg).trans a1
      replace a2 := (hb.cell (p := ⟨g, off + j * 8 + 2, none⟩) hg).trans a2
      replace a3 := (hb.cell (p := ⟨g, off + j * 8 + 3, none⟩) hg).trans a3
      replace a4 := (hb.cell (p := ⟨g, off + j * 8 + 4, none⟩) hg).trans a4
      replace a5 := (hb.cell (p := ⟨g, off + j * 8 + 5, none⟩) hg).trans a5
      replace a6 := (hb.cell (p := ⟨g, off + j * 8 + 6, none⟩) hg).trans a6
      replace a7 := (hb.cell (p := ⟨g, off + j * 8 + 7, none⟩) hg).trans a7
      have hgl : g < wr.heap.size := Nat.lt_of_lt_of_le hg hb.size
      have hcell := BelowOf.cell a3 hgl
      have hne := BelowOf.any wr
      have g1 : (0 : Int) ≤ (j : Int) := by omega
      have g2 : (j : Int) < (n : Int) := by omega
      have hmt := fun W : World => markText_any (K + 1 + 1 + 1) W (by omega)
      have hmt2 := fun W : World => markText_any (K + 1 + 1 + 1 + 1) W (by omega)
      have HB : Hid _ := hb
      clear HC hm hm2 hK hjl hb
      go_wp2_with fail
      refine wp_region_of (by kernel_rfl) (by kernel_rfl) ?_
      repeat (go_big_quiet_step ((first | (go_at_call 48; exact calls_of (hmt _)) | rfl)))
      refine wpQuiet_nil ?_
      rintro w1 ⟨⟨wx, cx⟩, hwx⟩
      have b1 : Below wr.heap.size wr w1 := by rw [hwx]; exact cx
      clear hwx cx wx
      have c8 := (b1.cell (p := ⟨g, off + j * 8 + 4, none⟩) hgl).trans a4
      have hgl1 : g < w1.heap.size := Nat.lt_of_lt_of_le hgl b1.size
      clear hcell a0 a1 a2 a3 a4 hmt
      have hcell := BelowOf.cell c8 hgl1
      have hne := BelowOf.any w1
      go_wp2_with fail
      refine wp_region_of (by kernel_rfl) (by kernel_rfl) ?_
      repeat (go_big_quiet_step ((first | (go_at_call 48; exact calls_of (hmt2 _)) | rfl)))
      refine wpQuiet_nil ?_
      rintro w2 ⟨⟨wx, cx⟩, hwx⟩
      have b2 : Below w1.heap.size w1 w2 := by rw [hwx]; exact cx
      clear hwx cx wx
      have b3 := bw_call b1 b2
      replace a5 := (b3.cell (p := ⟨g, off + j * 8 + 5, none⟩) hgl).trans a5
      replace a6 := (b3.cell (p := ⟨g, off + j * 8 + 6, none⟩) hgl).trans a6
      replace a7 := (b3.cell (p := ⟨g, off + j * 8 + 7, none⟩) hgl).trans a7
      clear hcell hne c8 hmt2 b1 b2
      go_wp2_with fail
      go_roundw
      case rel => exact ⟨j + 1, _, by omega, by go_num, rfl, by have := HK.out; omega, HB.out.trans (b3.mono HB.out.size)⟩
      case measure => simp [intOf]; omega
    · obtain rfl : j = n := by omega
      clear hK
      go_wp2_with fail
      go_ret
      exact ⟨ret_int HK.out, hb⟩
end Go.Proofs.YtibhepekmihagaaGreatDoor

namespace Go.Proofs.YtibhepekmihagaaGreatDoor
open Nums

set_option linter.unusedVariables false

set_option maxRecDepth 100000

/-- The place of a house among the members; -1 where it is none. -/
def atFrom (h : Int) : List Int → Nat → Int
  | [], _ => -1
  | m :: ms, k => if m = h then (k : Int) else atFrom h ms (k + 1)

def vAt (ms : List Int) (h : Int) : Int := atFrom h ms 0

def goes (n : Int) (ms : List Int) (h : Int) : Prop := 0 ≤ vAt ms h ∧ ms.length ≠ 1 ∧ n ≠ 1000

def comes (n : Int) (ms : List Int) (h : Int) : Prop := (0 ≤ h ∧ h ≤ 3) ∧ vAt ms h < 0 ∧ n ≠ 1000
end Go.Proofs.YtibhepekmihagaaGreatDoor

namespace Go.Proofs.YtibhepekmihagaaGreatDoor
open Go.RowKit Nums

set_option linter.unusedVariables false

set_option maxRecDepth 100000


/-- A view's row that is read, and one of one's own. -/
structure RVw (B : Nat) (w : World) (v : Value) (ms : List Int) : Prop where
  r : Reads B w v (ms.map (Value.int .i64))

theorem RVw.below {B : Nat} {w w' : World} {v : Value} {ms : List Int} (h : RVw B w v ms) (k : Below B w w') : RVw B w' v ms := ⟨h.r.below k⟩

theorem RVw.mono {B B' : Nat} {w : World} {v : Value} {ms : List Int} (h : RVw B w v ms) (k : B ≤ B') : RVw B' w v ms := ⟨h.r.mono k⟩

theorem RVw.of {B : Nat} {W : World} {v : Value} {ms : List Int} (h : RVw B W v ms) (y : B ≤ W.heap.size) (p : BelowOf W) : RVw p.w'.heap.size p.w' v ms := ((h.mono y).below p.h).mono p.h.size

theorem RVw.forms {B : Nat} {w : World} {v : Value} {ms : List Int} (h : RVw B w v ms) : ∃ o k, v = .slice o ms.length k := by
  obtain ⟨⟨o, k, e, -⟩⟩ := h
  exact ⟨o, k, by rw [e, List.length_map]⟩

structure OwnVw (base : Nat) (w : World) (v : Value) (ms : List Int) : Prop where
  c : w.ownsRow base 2 1 v ms.length (ms.map (Value.int .i64))

theorem OwnVw.below {base : Nat} {w w' : World} {v : Value} {ms : List Int} (h : OwnVw base w v ms) (b : Below w.heap.size w w') : OwnVw base w' v ms := ⟨owns_below h.c b⟩

theorem OwnVw.mono {base base' : Nat} {w : World} {v : Value} {ms : List Int} (h : OwnVw base w v ms) (b : base' ≤ base) : OwnVw base' w v ms := ⟨owns_mono h.c b⟩

theorem OwnVw.reads {base : Nat} {w : World} {v : Value} {ms : List Int} (h : OwnVw base w v ms) : RVw w.heap.size w v ms := ⟨Reads.of_own h.c⟩

theorem OwnVw.r {base : Nat} {w : World} {v : Value} {ms : List Int} (h : OwnVw base w v ms) : Reads w.heap.size w v (ms.map (Value.int .i64)) := Reads.of_own h.c

theorem OwnVw.rng {lo hi base : Nat} {w w' : World} {v : Value} {ms : List Int} (h : OwnVw base w v ms) (k : Rng lo hi w w') (hb : hi ≤ base) : OwnVw base w' v ms := ⟨own_rng h.c k hb⟩

theorem OwnVw.span {base : Nat} {w : World} {v : Value} {ms : List Int} (h : OwnVw base w v ms) : ∀ g, v.ownBlock = some g → base ≤ g ∧ g < w.heap.size := fun g h1 => h.c.lt g h1

theorem OwnVw.forms {base : Nat} {w : World} {v : Value} {ms : List Int} (h : OwnVw base w v ms) : ∃ o c, v = .slice o ms.length c := own_slice h.c

set_option maxHeartbeats 800000 in
theorem eqView_any (n n' : Int) (a b : Value) (ms ms' : List Int) (w : World) (r : RVw w.heap.size w a ms) (r' : RVw w.heap.size w b ms') :
    Calls Tryz.prog 70 #[.agg #[.int .i64 n, a], .agg #[.int .i64 n', b]] w fun e w' => e = .returned (.bool (decide (n = n') && decide (ms = ms'))) ∧ Below w.heap.size w w' := by
  obtain ⟨W0, hW0, k0, k1, d0, z0⟩ := box2 w #[.int .i64 n, a] #[.int .i64 n', b] 66 66
  have r0 := (r.below d0).mono d0.size
  have r1 := (r'.below d0).mono d0.size
  have HW0 : Hid (W0 = _) := hW0
  clear hW0 r r'
  have c0 := at_cell k0 0
  have c1 := at_cell k1 0
  have p0 := at_cell k0 1
  have p1 := at_cell k1 1
  by_cases hc : n = n'
  · subst hc
    go_enter Tryz.func70, Tryz.ntmps70
    go_wp2_with fail
    rw [← HW0.out]
    clear HW0
    refine (eqInts_any a b ms ms' _ r0.r r1.r).mono ?_
    rintro e w2 ⟨rfl, b2'⟩
    replace d0 := bw_call d0 b2'
    by_cases hp : ms = ms'
    · rw [decide_eq_true hp]
      have HP : Hid (ms = ms') := hp
      clear hp
      go_wp2_with fail
      go_ret
      exact ⟨ret_bool (by simp [HP.out]), d0⟩
    · rw [decide_eq_false hp]
      have HP : Hid (¬ ms = ms') := hp
      clear hp
      go_wp2_with fail
      go_ret
      exact ⟨ret_bool (by rw [decide_eq_false HP.out, Bool.and_false]), d0⟩
  · have HP : Hid (¬ n = n') := hc
    have hne : (n != n') = true := by rw [bne_iff_ne]; exact hc
    clear hc
    go_enter Tryz.func70, Tryz.ntmps70
    go_wp2_with fail
    go_ret
    rw [← HW0.out]
    exact ⟨ret_bool (by rw [decide_eq_false HP.out, Bool.false_and]), d0⟩

set_option maxHeartbeats 800000 in
theorem heldView_any (n : Int) (v : Value) (m : Nat) (k : Int) (w : World) (hk : 0 ≤ k) (hk2 : k ≤ 1073741824) (hn : m ≤ 1048576) (r : RVw w.heap.size w v (marksI k m)) :
    Calls Tryz.prog 80 #[.agg #[.int .i64 n, v], .int .i64 k] w fun e w' => e = .returned (.int .i64 (k + m)) ∧ Below w.heap.size w w' := by
  obtain ⟨W0, hW0, k0, d0, z0⟩ := box1 w #[.int .i64 n, v] 66
  have r0 := (r.below d0).mono d0.size
  have HW0 : Hid (W0 = _) := hW0
  clear hW0 r
  have p1 := at_cell k0 1
  go_enter Tryz.func80, Tryz.ntmps80
  go_wp2_with fail
  rw [← HW0.out]
  clear HW0
  refine (heldI_any v m k _ hk (by omega) r0.r).mono ?_
  rintro e w1 ⟨rfl, b⟩
  replace d0 := bw_call d0 b
  have h2 : 0 ≤ k + (m : Int) := by omega
  go_wp2_with fail
  go_ret
  exact ⟨rfl, d0⟩
end Go.Proofs.YtibhepekmihagaaGreatDoor

