/-
  Chapter 6's draws for the laws: DrawNewBook, DrawAlike, DrawFindBook.
-/
import Derived.Test.YtehjahegokeofabDrawBook
namespace Go.Proofs.Ytehjahegokeofab
open Go.RowKit
set_option linter.unusedVariables false

theorem drawNewBook_any (x : Option Addr) (len cap : Nat) (w : World) (hs : Src w w.heap.size x len) :
    Calls Try.prog 33 #[.slice x len cap] w fun e w' => ∃ (n : ByteArray) (z : Int), e = .returned (.tuple #[.string n, .int .i64 z]) ∧ n.size ≤ 5 ∧ (-1 ≤ z ∧ z ≤ 18) ∧ Below w.heap.size w w' := by
  go_enter Try.func33, Try.ntmps33
  go_wp2_with fail
  refine (new_any x len cap _ hs).mono ?_
  rintro e w1 ⟨rfl, b1, k1⟩
  go_wp2_with fail
  refine (name_any _ x len cap _ k1).mono ?_
  rintro e w2 ⟨n, rfl, hn, u2, k2⟩
  go_wp2_with fail
  refine (once_any _ x len cap 5 _ (by omega) k2).mono ?_
  rintro e w3 ⟨y, rfl, u3, k3⟩
  replace u3 := u2.trans u3
  clear u2 k2 k1
  cases y
  · go_wp2_with fail
    refine (from_any _ x len cap (-1) 18 _ (by omega) (by omega) (by omega) k3).mono ?_
    rintro e w4 ⟨z, rfl, hz, u4, k4⟩
    have d := b1.trans ((u3.trans u4).toBelow b1.size (Nat.le_refl _))
    clear u3 u4 k3 k4 b1
    go_wp2_with fail
    go_ret2
    exact ⟨n, z, rfl, hn, hz, d⟩
  · go_wp2_with fail
    refine (from_any _ x len cap (-1) 18 _ (by omega) (by omega) (by omega) k3).mono ?_
    rintro e w4 ⟨z, rfl, hz, u4, k4⟩
    have d := b1.trans ((u3.trans u4).toBelow b1.size (Nat.le_refl _))
    clear u3 u4 k3 k4 b1
    go_wp2_with fail
    go_ret2
    exact ⟨_, z, rfl, by decide, hz, d⟩

theorem new_five (w : World) (b : Bk) (t : TypeId) : ∀ (j : Nat) (u : Value), (bookC b)[j]? = some u → (w.alloc (.cells #[.string b.nm, .int .i64 b.sz, b.m, .bool b.fx, .int .i64 b.ep] t)).cell? ((⟨w.heap.size, 0, none⟩ : Addr).add j) = some u := by
  intro j u hj
  rw [addr_add]
  have e := World.cell?_alloc_mark w #[.string b.nm, .int .i64 b.sz, b.m, .bool b.fx, .int .i64 b.ep] t (0, 0) j
  exact e.trans ((show (#[Value.string b.nm, .int .i64 b.sz, b.m, .bool b.fx, .int .i64 b.ep] : Array Value)[j]? = (bookC b)[j]? by simp [bookC]).trans hj)
theorem one_book (b : Bk) (h : ∃ o k cp, b.m = .slice o k cp) : ∀ u ∈ bookC b, u.oneCell' = true := fun u hu => by
  obtain ⟨o, k, cp, h⟩ := h
  simp [bookC, h] at hu
  rcases hu with rfl | rfl | rfl | rfl | rfl <;> rfl
/-- A row of another type stays where a row grows. -/
theorem own_grown {w w' : World} {base base' : Nat} {e e' : TypeId} {k k' : Nat} {v : Value} {n n' g cp : Nat} {xs ys : List Value} (h : w.ownsRow base e k v n xs) (r : w.ownsRow base' e' k' (.slice (some ⟨g, 0, none⟩) n' cp) n' ys) (hne : e' ≠ e) (hg : w.grownBy w' (some g)) : w'.ownsRow base e k v n xs := by
  have u : Upto g w w' := (Upto.refl g w).grown hg (fun q hq => .inr (by cases hq; rfl))
  rcases r.2 with ⟨h0, _⟩ | ⟨g', cap', cur, h0, _, hh, _⟩
  · simp at h0
  · simp at h0
    obtain ⟨rfl, _⟩ := h0
    have hv := own_not_box h hh hne
    exact own_rng_not h (fun q hq hqv => u.block q hq (fun e => hv (by rw [← e]; exact hqv)))

/-- What the laws know of a book that was drawn. -/
structure Drawn (w : World) (b : Bk) : Prop where
  reads : ReadsR 3 runC w.heap.size w b.m b.rs
  fit : FitRuns b.rs
  nm : b.nm.size ≤ maxLen
theorem Drawn.below {w w' : World} {b : Bk} (h : Drawn w b) (k : Below w.heap.size w w') : Drawn w' b := ⟨(h.reads.below k).mono k.size, h.fit, h.nm⟩

set_option maxRecDepth 100000 in
set_option maxHeartbeats 3200000 in
theorem drawFindBook_any (x : Option Addr) (len cap : Nat) (w : World) (hs : Src w w.heap.size x len) :
    Calls Try.prog 36 #[.slice x len cap] w fun e w' => ∃ (v : Value) (bs : List Bk) (n : ByteArray), e = .returned (.tuple #[v, .string n]) ∧ ReadsR 5 bookC w'.heap.size w' v bs ∧ (∀ b ∈ bs, ∃ o k cp, b.m = .slice o k cp) ∧ bs.length ≤ 4 ∧ n.size ≤ 5 ∧ Below w.heap.size w w' := by
  obtain ⟨i0, hi, hz0, hz1, hz2⟩ := info_parts Try.infoBook
  go_enter Try.func36, Try.ntmps36
  go_wp2_with fail
  refine (new_any x len cap _ hs).mono ?_
  rintro e w1 ⟨rfl, b1, k1⟩
  have own0 : (w1.alloc (.cells #[] 50)).ownsRow w1.heap.size 50 5 (.slice (some ⟨w1.heap.size, 0, none⟩) 0 0) 0 [] := World.ownsRow_lit w1 #[] 0 (Nat.le_refl _) (Nat.zero_le _) rfl
  have u0 : Upto w.heap.size w1 (w1.alloc (.cells #[] 50)) := (Upto.refl _ _).alloc _
  have k0 := k1.alloc (.cells #[] 50)
  have hlt := k1.lt
  clear k1
  go_wp2_with fail
  generalize w1.alloc (.cells #[] 50) = W0 at *
  refine (below_any _ x len cap 5 _ (by omega) k0).mono ?_
  rintro e w2 ⟨m, rfl, hm, u2, k2⟩
  have hm5 : m < 5 := hm.2.1 (by omega)
  have hm0 := hm.1
  replace own0 := ownsRow_upto own0 u2 hlt
  replace u0 := u0.trans u2
  clear hm u2 k0
  go_wp2_with fail
  go_loopw [5, 6] (fun q i wr => ∃ (m : Int) (g cp : Nat) (bs : List Bk), i = .int .i64 m ∧ q = .slice (some ⟨g, 0, none⟩) bs.length cp ∧ (0 ≤ m ∧ m + bs.length ≤ 4) ∧ wr.ownsRow w1.heap.size 50 5 (.slice (some ⟨g, 0, none⟩) bs.length cp) bs.length (bs.flatMap bookC) ∧ (∀ b ∈ bs, ∃ o k cp, b.m = .slice o k cp) ∧ Upto w.heap.size w1 wr ∧ Cur wr w.heap.size x len cap) (fun _ i _ => (intOf i).toNat)
  case atStart => exact ⟨m, _, _, [], rfl, rfl, by simp; omega, own0, fun b hb => by simp at hb, u0, k2⟩
  case round =>
    clear own0 u0 k2 hm5 hm0
    obtain ⟨m, g, cp, bs, rfl, rfl, hm, own, hms, u, kc⟩ := hrel
    by_cases hpos : 0 < m
    · have hw : IntKind.i64.wrap (m - 1) = m - 1 := by rw [IntKind.wrap_i64]; omega
      go_wp2_with fail
      refine (draw6_any _ x len cap _ kc).mono ?_
      rintro e w3 ⟨b, rfl, st⟩
      obtain ⟨o1, c1, hf⟩ := st.form
      have own3 := ownsRow_upto own st.u hlt
      have u3 := u.trans st.u
      have k3 := st.kc
      have HL : Hid _ := own.lt
      have hbf : ∃ o k cp, b.m = .slice o k cp := ⟨o1, _, c1, hf⟩
      obtain ⟨bn, bz, bm, br, bf, be⟩ := b
      simp only at hf
      subst hf
      have hu3 := u3.size
      have HMS : Hid _ := hms
      clear st own u kc hms
      go_wp2_with (at_builtin; refine wpList_append_own _ rfl _ _ 55 rfl w1.heap.size 50 i0 (.agg #[.string ByteArray.empty, .int .i64 0, .slice none 0 0, .bool false, .int .i64 0]) 5 64 Try.underlying55 hi hz0 hz1 hz2 rfl (by decide) _ _ _ rfl (own3.alloc _) ⟨w3.heap.size, 0, none⟩ 1 1 (bookC ⟨bn, bz, .slice o1 br.length c1, br, bf, be⟩) rfl rfl ?c1 ?c2 ?c3 ?c4 ?c5 ?_)
      case c1 => exact new_five _ _ _
      case c2 => exact one_book _ hbf
      case c3 => unfold maxLen; omega
      case c4 => omega
      case c5 => simp; omega
      intro v' w4 hown' hgrow hnil
      have own4 : w4.ownsRow w1.heap.size 50 5 v' (bs ++ [(⟨bn, bz, .slice o1 br.length c1, br, bf, be⟩ : Bk)]).length ((bs ++ [(⟨bn, bz, .slice o1 br.length c1, br, bf, be⟩ : Bk)]).flatMap bookC) := by simpa using hown'
      obtain ⟨g', cp', hv'⟩ : ∃ g' cp', v' = .slice (some ⟨g', 0, none⟩) (bs ++ [(⟨bn, bz, .slice o1 br.length c1, br, bf, be⟩ : Bk)]).length cp' := by
        rcases own4.2 with ⟨e, _⟩ | ⟨g', cp', _, e, _⟩
        · exact absurd e hnil
        · exact ⟨g', cp', e⟩
      have hgl := (HL.out g rfl).1
      have u4 : Upto w.heap.size w1 w4 := (u3.alloc _).grown hgrow (fun q hq => .inl (by cases hq; exact hgl))
      have k4 : Cur w4 w.heap.size x len cap := (k3.alloc _).same ((Below.refl _ _).grown hgrow (by have := k3.lt; simp; omega) (fun q hq => by cases hq; exact Nat.lt_of_lt_of_le hlt hgl))
      have hm4 : ∀ b ∈ bs ++ [(⟨bn, bz, .slice o1 br.length c1, br, bf, be⟩ : Bk)], ∃ o k cp, b.m = .slice o k cp := fun b hb => by
        rcases List.mem_append.1 hb with y | y
        · exact HMS.out b y
        · simp only [List.mem_singleton] at y
          subst y
          exact hbf
      subst hv'
      have HO : Hid _ := And.intro own4 (And.intro hm4 (And.intro u4 k4))
      clear hown' hgrow hnil own4 hm4 u4 k4 own3 u3 k3 HL HMS hbf
      go_wp2_with fail
      go_roundw
      case rel => exact ⟨m - 1, g', cp', _, by first | rfl | go_num, rfl, by simp; omega, HO.out⟩
      case measure => simp [intOf]; omega
    · go_wp2_with fail
      refine (name_any _ x len cap _ kc).mono ?_
      rintro e w3 ⟨n, rfl, hn, u3, k3⟩
      have own3 := ownsRow_upto own u3 hlt
      have d := b1.trans ((u.trans u3).toBelow b1.size (Nat.le_refl _))
      have HR : Hid _ := And.intro (ReadsR.of_own bookC_len own3) hms
      clear own own3 u u3 kc k3 hms
      go_wp2_with fail
      go_ret2
      exact ⟨_, bs, n, rfl, HR.out.1, HR.out.2, by omega, hn, d⟩

end Go.Proofs.Ytehjahegokeofab
