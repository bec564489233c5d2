/-
  Contracts and plain laws, one chapter behind the other.
-/
import Derived.Test.YtgabhnhfomekfaaM41
namespace Go.Proofs.Ytgabhnhfomekfaa
open Go.RowKit

set_option linter.unusedVariables false


/-- A drawn row of letters. -/
structure PsR (w W : World) (v : Value) (l : List Mg) : Prop where
  own : W.ownsRow w.heap.size 38 15 v l.length (l.flatMap mgC)
  few : l.length ≤ 61
  fit : ∀ m ∈ l, MgD m

theorem PsR.fits {w W : World} {v : Value} {l : List Mg} (h : PsR w W v l) : ∀ m ∈ l, FitMsg m := fun m hm => (h.fit m hm).fit

set_option maxHeartbeats 3200000 in
theorem drawPosted_any (x : Option Addr) (len cap : Nat) (w : World) (hs : Src w w.heap.size x len) :
    Calls Try.prog 5 #[.slice x len cap] w fun e w' => ∃ (g1 c1 g2 c2 : Nat) (l1 l2 : List Mg), e = .returned (.tuple #[.slice (some ⟨g1, 0, none⟩) l1.length c1, .slice (some ⟨g2, 0, none⟩) l2.length c2]) ∧ PsR w w' (.slice (some ⟨g1, 0, none⟩) l1.length c1) l1 ∧ PsR w w' (.slice (some ⟨g2, 0, none⟩) l2.length c2) l2 ∧ Below w.heap.size w w' := by
  go_enter Try.func5, Try.ntmps5
  go_wp2_with fail
  refine (new_any x len cap _ hs).mono ?_
  rintro e w1 ⟨rfl, b1, kc⟩
  have z1 := b1.size
  go_wp2_with fail
  refine (draw15_any _ x len cap _ kc).mono ?_
  rintro e w2 ⟨g1, c1, l1, rfl, h1, K1⟩
  have z2 := K1.u.size
  have d := b1.trans (K1.u.toBelow (by omega) (Nat.le_refl _))
  clear b1 kc
  go_wp2_with fail
  refine (draw15_any _ x len cap _ K1.kc).mono ?_
  rintro e w3 ⟨g2, c2, l2, rfl, h2, K2⟩
  have HR : Hid _ := And.intro (PsR.mk (w := w) (owns_mono (ownsRow_upto K1.own K2.u K1.lt) z1) h1 K1.fit) (And.intro (PsR.mk (w := w) (owns_mono K2.own (by omega)) h2 K2.fit) (d.trans (K2.u.toBelow (by omega) (Nat.le_refl _))))
  clear K1 K2 d
  go_wp2_with fail
  exact bodyPost_ret (v := .tuple #[.slice (some ⟨g1, 0, none⟩) l1.length c1, .slice (some ⟨g2, 0, none⟩) l2.length c2]) (by simp [results, Try.results5, go_sem]) rfl ⟨g1, c1, g2, c2, l1, l2, rfl, HR.out⟩

set_option maxHeartbeats 3200000 in
theorem drawTaken_any (x : Option Addr) (len cap : Nat) (w : World) (hs : Src w w.heap.size x len) :
    Calls Try.prog 7 #[.slice x len cap] w fun e w' => ∃ (g cp : Nat) (l : List Mg) (y : Int), e = .returned (.tuple #[.slice (some ⟨g, 0, none⟩) l.length cp, .int .i64 y]) ∧ PsR w w' (.slice (some ⟨g, 0, none⟩) l.length cp) l ∧ (-1 ≤ y ∧ y ≤ 7) ∧ Below w.heap.size w w' := by
  go_enter Try.func7, Try.ntmps7
  go_wp2_with fail
  refine (new_any x len cap _ hs).mono ?_
  rintro e w1 ⟨rfl, b1, kc⟩
  have z1 := b1.size
  go_wp2_with fail
  refine (draw15_any _ x len cap _ kc).mono ?_
  rintro e w2 ⟨g1, c1, l1, rfl, h1, K1⟩
  have z2 := K1.u.size
  have d := b1.trans (K1.u.toBelow (by omega) (Nat.le_refl _))
  clear b1 kc
  go_wp2_with fail
  refine (from_any _ x len cap (-1) 7 _ (by omega) (by omega) (by omega) K1.kc).mono ?_
  rintro e w3 ⟨y, rfl, hy, u3, k3⟩
  have HR : Hid _ := And.intro (PsR.mk (w := w) (owns_mono (ownsRow_upto K1.own u3 K1.lt) z1) h1 K1.fit) (And.intro hy (d.trans (u3.toBelow (by omega) (Nat.le_refl _))))
  clear K1 u3 k3 d hy
  go_wp2_with fail
  exact bodyPost_ret (v := .tuple #[.slice (some ⟨g1, 0, none⟩) l1.length c1, .int .i64 y]) (by simp [results, Try.results7, go_sem]) rfl ⟨g1, c1, l1, y, rfl, HR.out⟩

theorem drawTwice_any (x : Option Addr) (len cap : Nat) (w : World) (hs : Src w w.heap.size x len) :
    Calls Try.prog 9 #[.slice x len cap] w fun e w' => ∃ (g cp : Nat) (l : List Mg) (y : Int), e = .returned (.tuple #[.slice (some ⟨g, 0, none⟩) l.length cp, .int .i64 y]) ∧ PsR w w' (.slice (some ⟨g, 0, none⟩) l.length cp) l ∧ (-1 ≤ y ∧ y ≤ 7) ∧ Below w.heap.size w w' := by
  go_enter Try.func9, Try.ntmps9
  go_wp2_with fail
  refine (drawTaken_any x len cap _ hs).mono ?_
  rintro e w1 ⟨g, cp, l, y, rfl, K, hy, d⟩
  have HR : Hid _ := And.intro K (And.intro hy d)
  clear K d hy
  go_wp2_with fail
  exact bodyPost_ret (v := .tuple #[.slice (some ⟨g, 0, none⟩) l.length cp, .int .i64 y]) (by simp [results, Try.results9, go_sem]) rfl ⟨g, cp, l, y, rfl, HR.out⟩

set_option maxRecDepth 100000 in
set_option maxHeartbeats 3200000 in
theorem drawMsgOk_any (x : Option Addr) (len cap : Nat) (w : World) (hs : Src w w.heap.size x len) :
    Calls Try.prog 11 #[.slice x len cap] w fun e w' => ∃ m : Mg, e = .returned (mgV m) ∧ MgD m ∧ Below w.heap.size w w' := by
  obtain ⟨W0, hW0, kR, d0, z0⟩ := box1 w #[.int .i64 0, .int .i64 0, .int .i64 0, .int .i64 0, .int .i64 0, .int .i64 0, .int .i64 0, .string ⟨#[]⟩, .string ⟨#[]⟩, .int .i64 0, .int .i64 0, .int .i64 0, .int .i64 0, .int .i64 0, .int .i64 0] 38
  have HW0 : Hid (W0 = _) := hW0
  have hs0 := (hs.below d0).mono d0.size
  have sR : w.heap.size < W0.heap.size := by omega
  clear hW0 hs z0
  go_enter Try.func11, Try.ntmps11
  go_wp2_with fail
  rw [← HW0.out]
  clear HW0
  refine (new_any x len cap _ hs0).mono ?_
  rintro e w1 ⟨rfl, b1, kc⟩
  have z1 := b1.size
  replace kR := (b1.block _ (by omega)).trans kR
  replace d0 := bw_call d0 b1
  go_wp2_with fail
  refine (drawMsg_any _ x len cap _ kc).mono ?_
  rintro e w2 ⟨⟨kd, ds, vw, ⟨sq, cl, tg, ⟨k, nm, ot, at_, va, ep⟩⟩, s, rc, rv⟩, rfl, fm, u2, k2⟩
  have z2 := u2.size
  replace kR := (u2.block _ (by omega) (by omega)).trans kR
  replace d0 := d0.trans (u2.toBelow (by omega) (by omega))
  simp only [mgV]
  have HI : Hid ((Try.prog.info? 38).map (·.size) = some (#[.int .i64 kd, .int .i64 ds, .int .i64 vw, .int .i64 sq, .int .i64 cl, .int .i64 tg, .int .i64 k, .string nm, .string ot, .int .i64 at_, .int .i64 va, .int .i64 ep, .int .i64 s, .int .i64 rc, .int .i64 rv] : Array Value).size) := sizeMsg15
  have HS15 : Hid ((#[.int .i64 0, .int .i64 0, .int .i64 0, .int .i64 0, .int .i64 0, .int .i64 0, .int .i64 0, .string ⟨#[]⟩, .string ⟨#[]⟩, .int .i64 0, .int .i64 0, .int .i64 0, .int .i64 0, .int .i64 0, .int .i64 0] : Array Value).size = (#[.int .i64 kd, .int .i64 ds, .int .i64 vw, .int .i64 sq, .int .i64 cl, .int .i64 tg, .int .i64 k, .string nm, .string ot, .int .i64 at_, .int .i64 va, .int .i64 ep, .int .i64 s, .int .i64 rc, .int .i64 rv] : Array Value).size) := rfl
  have H115 : Hid ((#[.int .i64 kd, .int .i64 ds, .int .i64 vw, .int .i64 sq, .int .i64 cl, .int .i64 tg, .int .i64 k, .string nm, .string ot, .int .i64 at_, .int .i64 va, .int .i64 ep, .int .i64 s, .int .i64 rc, .int .i64 rv] : Array Value).all (·.oneCell') = true) := msg_one15 ⟨kd, ds, vw, ⟨sq, cl, tg, ⟨k, nm, ot, at_, va, ep⟩⟩, s, rc, rv⟩
  have HKR : Hid _ := kR
  have hrow := setRow_row (cs := #[.int .i64 kd, .int .i64 ds, .int .i64 vw, .int .i64 sq, .int .i64 cl, .int .i64 tg, .int .i64 k, .string nm, .string ot, .int .i64 at_, .int .i64 va, .int .i64 ep, .int .i64 s, .int .i64 rc, .int .i64 rv]) kR
  have HLD : Hid _ := run_loadVar_row (P := Try.prog) _ w.heap.size 38 38 #[.int .i64 kd, .int .i64 ds, .int .i64 vw, .int .i64 sq, .int .i64 cl, .int .i64 tg, .int .i64 k, .string nm, .string ot, .int .i64 at_, .int .i64 va, .int .i64 ep, .int .i64 s, .int .i64 rc, .int .i64 rv] (0, 0) _ hrow Try.underlying38 rfl HI.out
  have uu : Upto w.heap.size w2 (w2.setRow w.heap.size #[.int .i64 kd, .int .i64 ds, .int .i64 vw, .int .i64 sq, .int .i64 cl, .int .i64 tg, .int .i64 k, .string nm, .string ot, .int .i64 at_, .int .i64 va, .int .i64 ep, .int .i64 s, .int .i64 rc, .int .i64 rv]) := row_upto15
  have HE : Hid _ := And.intro fm (d0.trans (uu.toBelow (by omega) (Nat.le_refl _)))
  clear fm u2 k2 kc b1 hrow uu d0 kR hs0
  go_wp2_with (first
    | (with_reducible refine wpList_store_arr rfl _ _ 38 rfl w.heap.size rfl #[.int .i64 kd, .int .i64 ds, .int .i64 vw, .int .i64 sq, .int .i64 cl, .int .i64 tg, .int .i64 k, .string nm, .string ot, .int .i64 at_, .int .i64 va, .int .i64 ep, .int .i64 s, .int .i64 rc, .int .i64 rv] rfl #[.int .i64 0, .int .i64 0, .int .i64 0, .int .i64 0, .int .i64 0, .int .i64 0, .int .i64 0, .string ⟨#[]⟩, .string ⟨#[]⟩, .int .i64 0, .int .i64 0, .int .i64 0, .int .i64 0, .int .i64 0, .int .i64 0] 38 HKR.out HI.out HS15.out H115.out ?_)
    | fail)
  refine bodyPost_ret (v := .agg #[.int .i64 kd, .int .i64 ds, .int .i64 vw, .int .i64 sq, .int .i64 cl, .int .i64 tg, .int .i64 k, .string nm, .string ot, .int .i64 at_, .int .i64 va, .int .i64 ep, .int .i64 s, .int .i64 rc, .int .i64 rv]) ?_ rfl ⟨⟨kd, ds, vw, ⟨sq, cl, tg, ⟨k, nm, ot, at_, va, ep⟩⟩, s, rc, rv⟩, rfl, HE.out.1, HE.out.2⟩
  simp [results, Try.results11, asAddr, Act.put, HLD.out]
end Go.Proofs.Ytgabhnhfomekfaa

